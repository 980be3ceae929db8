/- At every argument MatchBill answers as the model, writes into no argument, and its answer owns its memory; no condition. -/
import Derived.Test.YtghphlnpginmhaaRows
import Derived.WalkKit
import Derived.ProofKit
import Derived.OpenShut
import Derived.ShutString
import Derived.ChangeOld
import Derived.Below
import Derived.Handy
import Derived.Carry
import Derived.Lib.SmallJoins
import Derived.Deep.SlicePairs
import Derived.Test.YtghphlnpginmhaaBw
namespace Go.Proofs.Ytghphlnpginmhaa.fnExactMatchBill
open Go.ChangeShapes Go.WideShapes Go.ChangeAt Go.RowKit
set_option linter.unusedVariables false
set_option linter.unusedSimpArgs false

theorem own : ownKnob Try.prog.godebug = none := by kernel_rfl
theorem laidOut : laidOutB Try.prog = true := by kernel_rfl

set_option maxRecDepth 20000 in
set_option maxHeartbeats 4000000 in
theorem walk (ad : Option Addr) (len cap : Nat) (c : Nat → OL3) (ar : Option Addr) (nr rcap : Nat) (rc : Nat → RC2) (ab : Option Addr) (nb bcap : Nat) (bc : Nat → BN3) (tov tpr tle : Int) (w : World) (hl : len ≤ maxLen) (hc : ∀ j, (c j).item.size ≤ maxLen) (hr : OLr w ad len c) (hnr : nr ≤ maxLen) (hrr : RCr w ar nr rc) (hnb : nb ≤ maxLen) (hbr : BNr w ab nb bc) :
    Calls Try.prog 10 #[.slice ad len cap, .slice ar nr rcap, .slice ab nb bcap, .agg #[.int .i64 tov, .int .i64 tpr, .int .i64 tle]] w fun e w' => e = .returned (.bool true) ∧ Below w.heap.size w w' := by
  have HO : Hid (OLr w ad len c) := hr
  have HN : Hid (RCr w ar nr rc) := hrr
  have HQ : Hid (BNr w ab nb bc) := hbr
  have hl2 : (len : Int) ≤ 9223372036854775807 := by unfold maxLen at hl; omega
  have hn2 : (nr : Int) ≤ 9223372036854775807 := by unfold maxLen at hnr; omega
  have hb2 : (nb : Int) ≤ 9223372036854775807 := by unfold maxLen at hnb; omega
  have hc2 : Hid (∀ j, ((c j).item.size : Int) ≤ 9223372036854775807) := fun j => by have := hc j; unfold maxLen at this; omega
  have HC : Hid (∀ j, (c j).item.size ≤ maxLen) := hc
  clear hr hrr hbr hc hl hnr hnb
  go_enter Try.func10, Try.ntmps10
  go_wp2_with (first
    | (go_at_call 33; refine (szOL3S_any _ _ _ c _ _ (by omega) (by omega) hl2 hc2.out (HO.out.alloc _)).mono ?_; rintro e w1 ⟨v, rfl, hv, b1⟩; obtain ⟨C1, B1⟩ := tol_bl b1; have HC1 : Hid (CB w1 w.heap.size #[.int .i64 tov, .int .i64 tpr, .int .i64 tle] 75) := C1; have HB1 : Hid (Below w.heap.size w w1) := B1; clear b1 C1 B1; rcases hv with rfl | ⟨hv, hv1, hlb, hv2⟩)
    | (go_at_call 38; refine (szRC2S_any _ _ _ _ _ hv hv1 hn2).mono ?_; rintro e w1' ⟨u, rfl, hu, ew⟩; replace ew := ew.symm; subst ew; rcases hu with rfl | ⟨hu, hu1, hnrb⟩)
    | (go_at_call 49; refine (szBN3S_any _ _ _ _ _ hu hu1 hb2).mono ?_; rintro e w1' ⟨t, rfl, ht, ew⟩; replace ew := ew.symm; subst ew; rcases ht with rfl | ⟨ht, ht1, hnbb⟩))
  · go_returns
    exact ⟨rfl, HB1.out⟩
  · go_returns
    exact ⟨rfl, HB1.out⟩
  · go_returns
    exact ⟨rfl, HB1.out⟩
  obtain ⟨M, hM⟩ : ∃ M, mbM len c nr rc nb bc tov tpr tle = M := ⟨_, rfl⟩
  obtain ⟨T, hT⟩ : ∃ T, mbY len c nr rc nb bc tov tpr tle = T := ⟨_, rfl⟩
  obtain ⟨F, hF⟩ : ∃ F, mbF c nr rc nb bc tpr tle = F := ⟨_, rfl⟩
  have hM1 : (M : Int) ≤ 1048576 := by rw [← hM]; unfold mbM; split <;> omega
  have HSP : Hid (∀ (a1 : Option Addr) (k1 : Nat) (a2 : Option Addr) (k2 : Nat) (a3 : Option Addr) (k3 : Nat) (W : World), OLr W a1 len c → RCr W a2 nr rc → BNr W a3 nb bc → Calls Try.prog 20 #[.slice a1 len k1, .slice a2 nr k2, .slice a3 nb k3, .agg #[.int .i64 tov, .int .i64 tpr, .int .i64 tle]] W fun e w' => ∃ ad cap, e = .returned (.tuple #[.slice ad M cap, .int .i64 T]) ∧ OwnML4 w' W.heap.size ad M F ∧ Below W.heap.size W w') := fun a1 k1 a2 k2 a3 k3 W g1 g2 g3 => by
    have := specMatch_any a1 len k1 c a2 nr k2 rc a3 nb k3 bc tov tpr tle W hlb hnrb hnbb HC.out g1 g2 g3
    unfold MbP at this; rw [hM, hT, hF] at this; exact this
  have HIM : Hid (∀ (a1 : Option Addr) (k1 : Nat) (a2 : Option Addr) (k2 : Nat) (a3 : Option Addr) (k3 : Nat) (W : World), OLr W a1 len c → RCr W a2 nr rc → BNr W a3 nb bc → Calls Try.prog 19 #[.slice a1 len k1, .slice a2 nr k2, .slice a3 nb k3, .agg #[.int .i64 tov, .int .i64 tpr, .int .i64 tle]] W fun e w' => ∃ ad cap, e = .returned (.tuple #[.slice ad M cap, .int .i64 T]) ∧ OwnML4 w' W.heap.size ad M F ∧ Below W.heap.size W w') := fun a1 k1 a2 k2 a3 k3 W g1 g2 g3 => by
    have := implMatch_any a1 len k1 c a2 nr k2 rc a3 nb k3 bc tov tpr tle W hlb hnrb hnbb HC.out g1 g2 g3
    unfold MbP at this; rw [hM, hT, hF] at this; exact this
  have hT1 : (T != T) = false := by simp
  have hT2 : (T == T) = true := by simp
  clear hM hT hF hv2
  have x0 := (HC1.out.cell 0).trans rfl
  have x1 := (HC1.out.cell 1).trans rfl
  have x2 := (HC1.out.cell 2).trans rfl
  have hBd : Below w.heap.size w w1.drew ∧ CB w1.drew w.heap.size #[.int .i64 tov, .int .i64 tpr, .int .i64 tle] 75 := ⟨HB1.out.drew, HC1.out⟩
  have hv3 : ¬ v < 0 := by omega
  have hu3 : ¬ u < 0 := by omega
  have ht3 : ¬ t < 0 := by omega
  go_region_held3 (fun w' => (w'.cell? ⟨w.heap.size, 0, none⟩ = some (.int .i64 tov)) ∧ (w'.cell? ⟨w.heap.size, 1, none⟩ = some (.int .i64 tpr)) ∧ (w'.cell? ⟨w.heap.size, 2, none⟩ = some (.int .i64 tle)) ∧ (Below w.heap.size w w' ∧ CB w' w.heap.size #[.int .i64 tov, .int .i64 tpr, .int .i64 tle] 75))
    (refine ⟨?_, ?_, ?_, ?_⟩ <;> first | assumption | (simp [*]; done))
    (first
    | (go_at_call 35; refine (toOL3S_any _ _ _ c _ hlb (HO.out.below (And.left (by assumption)))).mono ?_; rintro e w2 ⟨rfl, ⟨i2, _⟩, b2⟩; have q0 : w2.cell? ⟨w.heap.size, 0, none⟩ = some (.int .i64 tov) := keep_cell b2 (by simp [*]); have q1 : w2.cell? ⟨w.heap.size, 1, none⟩ = some (.int .i64 tpr) := keep_cell b2 (by simp [*]); have q2 : w2.cell? ⟨w.heap.size, 2, none⟩ = some (.int .i64 tle) := keep_cell b2 (by simp [*]); have q3 : Below w.heap.size w w2 ∧ CB w2 w.heap.size #[.int .i64 tov, .int .i64 tpr, .int .i64 tle] 75 := step_bt (by assumption) b2; have HI2 : Hid (OLr w2 (some ⟨_, 0, none⟩) len c) := i2; clear i2 b2)
    | (go_at_call 40; refine (toRC2S_any _ _ _ rc _ hnrb (HN.out.below (And.left (by assumption)))).mono ?_; rintro e w3 ⟨rfl, ⟨i3, _⟩, b3⟩; have q0 : w3.cell? ⟨w.heap.size, 0, none⟩ = some (.int .i64 tov) := keep_cell b3 (by simp [*]); have q1 : w3.cell? ⟨w.heap.size, 1, none⟩ = some (.int .i64 tpr) := keep_cell b3 (by simp [*]); have q2 : w3.cell? ⟨w.heap.size, 2, none⟩ = some (.int .i64 tle) := keep_cell b3 (by simp [*]); have q3 : Below w.heap.size w w3 ∧ CB w3 w.heap.size #[.int .i64 tov, .int .i64 tpr, .int .i64 tle] 75 := step_bt (by assumption) b3; have HI3 := hid (HI2.out.below b3); have HJ3 := hid i3; clear i3 b3)
    | (go_at_call 50; refine (toBN3S_any _ _ _ bc _ hnbb (HQ.out.below (And.left (by assumption)))).mono ?_; rintro e w3b ⟨rfl, ⟨i3b, _⟩, b3b⟩; have q0 : w3b.cell? ⟨w.heap.size, 0, none⟩ = some (.int .i64 tov) := keep_cell b3b (by simp [*]); have q1 : w3b.cell? ⟨w.heap.size, 1, none⟩ = some (.int .i64 tpr) := keep_cell b3b (by simp [*]); have q2 : w3b.cell? ⟨w.heap.size, 2, none⟩ = some (.int .i64 tle) := keep_cell b3b (by simp [*]); have q3 : Below w.heap.size w w3b ∧ CB w3b w.heap.size #[.int .i64 tov, .int .i64 tpr, .int .i64 tle] 75 := step_bt (by assumption) b3b; have HI3b := hid (HI3.out.below b3b); have HJ3b := hid (HJ3.out.below b3b); have HK3b := hid i3b; clear i3b b3b)
    | (go_at_call 41; refine (toTol_any _ _ _ _).mono ?_; rintro e w4 ⟨rfl, b4⟩; have q0 : w4.cell? ⟨w.heap.size, 0, none⟩ = some (.int .i64 tov) := keep_cell b4 (by simp [*]); have q1 : w4.cell? ⟨w.heap.size, 1, none⟩ = some (.int .i64 tpr) := keep_cell b4 (by simp [*]); have q2 : w4.cell? ⟨w.heap.size, 2, none⟩ = some (.int .i64 tle) := keep_cell b4 (by simp [*]); have q3 : Below w.heap.size w w4 ∧ CB w4 w.heap.size #[.int .i64 tov, .int .i64 tpr, .int .i64 tle] 75 := step_bt (by assumption) b4; have HI4 := hid (HI3b.out.below b4); have HJ4 := hid (HJ3b.out.below b4); have HK4 := hid (HK3b.out.below b4); clear b4)
    | (go_at_call 20; refine (HSP.out _ _ _ _ _ _ _ HI4.out HJ4.out HK4.out).mono ?_; rintro e w5 ⟨ado, capo, rfl, o5, b5⟩; have q0 : w5.cell? ⟨w.heap.size, 0, none⟩ = some (.int .i64 tov) := keep_cell b5 (by simp [*]); have q1 : w5.cell? ⟨w.heap.size, 1, none⟩ = some (.int .i64 tpr) := keep_cell b5 (by simp [*]); have q2 : w5.cell? ⟨w.heap.size, 2, none⟩ = some (.int .i64 tle) := keep_cell b5 (by simp [*]); have q3 : Below w.heap.size w w5 ∧ CB w5 w.heap.size #[.int .i64 tov, .int .i64 tpr, .int .i64 tle] 75 := step_bt (by assumption) b5; have HO5 : Hid (OwnM w5 (w.heap.size + 1) w5.heap.size ado M F) := (ownM_of o5).lower (by have h1 : CB w4 w.heap.size #[.int .i64 tov, .int .i64 tpr, .int .i64 tle] 75 := And.right (by assumption); have := h1.lt; omega); clear o5 b5))
  have HB5 : Hid (Below w.heap.size w w5) := q3.1
  have HC5 : Hid (CB w5 w.heap.size #[.int .i64 tov, .int .i64 tpr, .int .i64 tle] 75) := q3.2
  clear q0 q1 q2 q3 x0 x1 x2 hBd HI2 HI3 HI4 HJ3 HJ4 HI3b HJ3b HK3b HK4 HSP
  have tok1 : True := trivial
  have tok2 : True := trivial
  have tok3 : True := trivial
  have tok4 : True := trivial
  have tok5 : True := trivial
  have hkk : ¬ (1 + 3 * (len : Int) + 2 * (nr : Int) + 3 * (nb : Int)) < 0 := by omega
  have hkm : ¬ (1 + 4 * (M : Int)) < 0 := by omega
  go_wp2_with (first
    | (go_at_call 35; clear tok1; go_loud (refine (toOL3S_any _ _ _ c w5 hlb (HO.out.below HB5.out)).mono ?_; rintro e w6 ⟨rfl, o6, b6⟩; have HX6 : Hid (OLA w6 w5.heap.size len c) := o6; have HB6 : Hid (Below w.heap.size w w6) := bel_on HB5.out b6; have HC6 : Hid (CB w6 w.heap.size #[.int .i64 tov, .int .i64 tpr, .int .i64 tle] 75) := HC5.out.below b6 HC5.out.lt; have HO6 : Hid (OwnM w6 (w.heap.size + 1) w5.heap.size ado M F) := HO5.out.below b6; clear o6 b6))
    | (go_at_call 40; clear tok2; go_loud (refine (toRC2S_any _ _ _ rc w6 hnrb (HN.out.below HB6.out)).mono ?_; rintro e w7 ⟨rfl, o7, b7⟩; have HX7 : Hid (OLA w7 w5.heap.size len c) := HX6.out.below b7; have HY7 : Hid (RCA w7 w6.heap.size nr rc) := o7; have HB7 : Hid (Below w.heap.size w w7) := bel_on HB6.out b7; have HC7 : Hid (CB w7 w.heap.size #[.int .i64 tov, .int .i64 tpr, .int .i64 tle] 75) := HC6.out.below b7 HC6.out.lt; have HO7 : Hid (OwnM w7 (w.heap.size + 1) w5.heap.size ado M F) := HO6.out.below b7; clear o7 b7))
    | (go_at_call 50; clear tok5; go_loud (refine (toBN3S_any _ _ _ bc w7 hnbb (HQ.out.below HB7.out)).mono ?_; rintro e w7b ⟨rfl, o7, b7⟩; have HX7b : Hid (OLA w7b w5.heap.size len c) := HX7.out.below b7; have HY7b : Hid (RCA w7b w6.heap.size nr rc) := HY7.out.below b7; have HZ7b : Hid (BNA w7b w7.heap.size nb bc) := o7; have HB7b : Hid (Below w.heap.size w w7b) := bel_on HB7.out b7; have HC7b : Hid (CB w7b w.heap.size #[.int .i64 tov, .int .i64 tpr, .int .i64 tle] 75) := HC7.out.below b7 HC7.out.lt; have HO7b : Hid (OwnM w7b (w.heap.size + 1) w5.heap.size ado M F) := HO7.out.below b7; have x0 := (HC7b.out.cell 0).trans rfl; have x1 := (HC7b.out.cell 1).trans rfl; have x2 := (HC7b.out.cell 2).trans rfl; clear o7 b7))
    | (go_at_call 41; go_loud (refine (toTol_any tov tpr tle w7b).mono ?_; rintro e w8 ⟨rfl, b8⟩; have HX8 : Hid (OLA w8 w5.heap.size len c) := HX7b.out.below b8; have HY8 : Hid (RCA w8 w6.heap.size nr rc) := HY7b.out.below b8; have HZ8 : Hid (BNA w8 w7.heap.size nb bc) := HZ7b.out.below b8; have HB8 : Hid (Below w.heap.size w w8) := bel_on HB7b.out b8; have HC8 : Hid (CB w8 w.heap.size #[.int .i64 tov, .int .i64 tpr, .int .i64 tle] 75) := HC7b.out.below b8 HC7b.out.lt; have HO8 : Hid (OwnM w8 (w.heap.size + 1) w5.heap.size ado M F) := HO7b.out.below b8; clear b8 x0 x1 x2))
    | (go_at_call 19; go_loud (refine (HIM.out _ _ _ _ _ _ w8 HX8.out.1 HY8.out.1 HZ8.out.1).mono ?_; rintro e w9 ⟨adg, capg, rfl, o9, b9⟩; have HU9 : Hid (MU w M F ado adg w5.heap.size len c w6.heap.size nr rc w7.heap.size nb bc #[.int .i64 tov, .int .i64 tpr, .int .i64 tle] w8.heap.size w9.heap.size w9) := hid ⟨bel_on HB8.out b9, HC8.out.below b9 HC8.out.lt, HO8.out.below b9, HX8.out.below b9, HY8.out.below b9, HZ8.out.below b9, ownM_of o9, HC5.out.lt, HX6.out.lt, HY7.out.lt, HZ8.out.lt⟩; clear o9 b9))
    | (go_at_call 51; clear tok3; go_loud (refine (eqML4S_same _ _ _ _ _ F w9 hM1 HU9.out.g.row HU9.out.o.row).mono ?_; rintro e w10 ⟨rfl, b10⟩; have HU10 : Hid (MU w M F ado adg w5.heap.size len c w6.heap.size nr rc w7.heap.size nb bc #[.int .i64 tov, .int .i64 tpr, .int .i64 tle] w8.heap.size w9.heap.size w10) := HU9.out.below b10; clear b10))
    | (go_at_call 35; go_loud (refine (toOL3S_any _ _ _ c w10 hlb (HO.out.below HU10.out.bl)).mono ?_; rintro e w11 ⟨rfl, o11, b11⟩; have HU11 : Hid (MU w M F ado adg w5.heap.size len c w6.heap.size nr rc w7.heap.size nb bc #[.int .i64 tov, .int .i64 tpr, .int .i64 tle] w8.heap.size w9.heap.size w11) := HU10.out.below b11; have HI11 := hid o11.1; clear o11 b11))
    | (go_at_call 37; go_loud (refine (eqOL3S_same _ _ _ _ _ c w11 hlb HU11.out.x.1 HI11.out).mono ?_; rintro e w12 ⟨rfl, b12⟩; have HU12 : Hid (MU w M F ado adg w5.heap.size len c w6.heap.size nr rc w7.heap.size nb bc #[.int .i64 tov, .int .i64 tpr, .int .i64 tle] w8.heap.size w9.heap.size w12) := HU11.out.below b12; clear b12))
    | (go_at_call 40; go_loud (refine (toRC2S_any _ _ _ rc w12 hnrb (HN.out.below HU12.out.bl)).mono ?_; rintro e w13 ⟨rfl, o13, b13⟩; have HU13 : Hid (MU w M F ado adg w5.heap.size len c w6.heap.size nr rc w7.heap.size nb bc #[.int .i64 tov, .int .i64 tpr, .int .i64 tle] w8.heap.size w9.heap.size w13) := HU12.out.below b13; have HI13 := hid o13.1; clear o13 b13))
    | (go_at_call 44; go_loud (refine (eqRC2S_same _ _ _ _ _ rc w13 hnrb HU13.out.y.1 HI13.out).mono ?_; rintro e w14 ⟨rfl, b14⟩; have HU14 : Hid (MU w M F ado adg w5.heap.size len c w6.heap.size nr rc w7.heap.size nb bc #[.int .i64 tov, .int .i64 tpr, .int .i64 tle] w8.heap.size w9.heap.size w14) := HU13.out.below b14; clear b14))
    | (go_at_call 50; go_loud (refine (toBN3S_any _ _ _ bc w14 hnbb (HQ.out.below HU14.out.bl)).mono ?_; rintro e w23 ⟨rfl, o13, b13⟩; have HU23 : Hid (MU w M F ado adg w5.heap.size len c w6.heap.size nr rc w7.heap.size nb bc #[.int .i64 tov, .int .i64 tpr, .int .i64 tle] w8.heap.size w9.heap.size w23) := HU14.out.below b13; have HI23 := hid o13.1; clear o13 b13))
    | (go_at_call 52; go_loud (refine (eqBN3S_same _ _ _ _ _ bc w23 hnbb HU23.out.z.1 HI23.out).mono ?_; rintro e w24 ⟨rfl, b14⟩; have HU24 : Hid (MU w M F ado adg w5.heap.size len c w6.heap.size nr rc w7.heap.size nb bc #[.int .i64 tov, .int .i64 tpr, .int .i64 tle] w8.heap.size w9.heap.size w24) := HU23.out.below b14; clear b14))
    | (go_at_call 45; go_loud (obtain ⟨_, cx, hcx, hsx⟩ := HU24.out.x; refine (markOL3S_is w5.heap.size len _ 1 cx w24 hlb (by omega) (by omega) hcx (by omega)).mono ?_; rintro e w15 ⟨rfl, _, _, kk, b15⟩; have HV15 : Hid (MV w M F ado adg w5.heap.size w6.heap.size nr rc w7.heap.size nb bc #[.int .i64 tov, .int .i64 tpr, .int .i64 tle] w8.heap.size w9.heap.size w15) := HU24.out.marked kk b15; clear hcx hsx kk b15))
    | (go_at_call 46; go_loud (obtain ⟨_, cy, hcy, hsy⟩ := HV15.out.y; refine (markRC2S_is w6.heap.size nr _ _ cy w15 hnrb (by omega) (by omega) hcy (by omega)).mono ?_; rintro e w16 ⟨rfl, _, _, kk, b16⟩; have HX16 : Hid (MX w M F ado adg w5.heap.size w6.heap.size w7.heap.size nb bc #[.int .i64 tov, .int .i64 tpr, .int .i64 tle] w8.heap.size w9.heap.size w16) := HV15.out.marked kk b16; clear hcy hsy kk b16))
    | (go_at_call 53; go_loud (obtain ⟨_, cz, hcz, hsz⟩ := HX16.out.z; refine (markBN3S_is w7.heap.size nb _ _ cz w16 hnbb (by omega) (by omega) hcz (by omega)).mono ?_; rintro e w26 ⟨rfl, _, _, kk, b16⟩; have HW26 : Hid (MW w M F ado adg w5.heap.size #[.int .i64 tov, .int .i64 tpr, .int .i64 tle] w8.heap.size w9.heap.size w26) := HX16.out.marked kk b16; clear hcz hsz kk b16))
    | (go_at_call 51; clear tok4; go_loud (refine (eqML4S_same _ _ _ _ _ F w26 hM1 HW26.out.g.row HW26.out.o.row).mono ?_; rintro e w17 ⟨rfl, b17⟩; have HW17 : Hid (MW w M F ado adg w5.heap.size #[.int .i64 tov, .int .i64 tpr, .int .i64 tle] w8.heap.size w9.heap.size w17) := HW26.out.below b17; clear b17))
    | (go_at_call 54; go_loud (refine (markM _ _ _ _ _ F w17 hM1 HW17.out.g).mono ?_; rintro e w18 ⟨rfl, gb, kk, b18⟩; have HZ18 : Hid (MZ w M F ado adg w5.heap.size #[.int .i64 tov, .int .i64 tpr, .int .i64 tle] w18) := HW17.out.marked gb kk b18; clear gb kk b18))
    | (go_at_call 55; go_loud (refine (heldML4S_is _ _ _ 1 w18 hM1 (by omega) (by omega) HZ18.out.h).mono ?_; rintro e wh ⟨rfl, ew⟩; replace ew := ew.symm; subst ew)))
  have x0 := (HZ18.out.t.cell 0).trans rfl
  have x1 := (HZ18.out.t.cell 1).trans rfl
  have x2 := (HZ18.out.t.cell 2).trans rfl
  have hZd : MZ w M F ado adg w5.heap.size #[.int .i64 tov, .int .i64 tpr, .int .i64 tle] w18.drew := HZ18.out.below ((Below.refl _ _).drew)
  go_region_held3 (fun w' => (w'.cell? ⟨w.heap.size, 0, none⟩ = some (.int .i64 tov)) ∧ (w'.cell? ⟨w.heap.size, 1, none⟩ = some (.int .i64 tpr)) ∧ (w'.cell? ⟨w.heap.size, 2, none⟩ = some (.int .i64 tle)) ∧ MZ w M F ado adg w5.heap.size #[.int .i64 tov, .int .i64 tpr, .int .i64 tle] w')
    (refine ⟨?_, ?_, ?_, ?_⟩ <;> first | assumption | (simp [*]; done))
    (first
    | (go_at_call 35; refine (toOL3S_any _ _ _ c _ hlb (HO.out.below (MZ.bl (by assumption)))).mono ?_; rintro e w2 ⟨rfl, ⟨i2, _⟩, b2⟩; have q0 : w2.cell? ⟨w.heap.size, 0, none⟩ = some (.int .i64 tov) := keep_cell b2 (by simp [*]); have q1 : w2.cell? ⟨w.heap.size, 1, none⟩ = some (.int .i64 tpr) := keep_cell b2 (by simp [*]); have q2 : w2.cell? ⟨w.heap.size, 2, none⟩ = some (.int .i64 tle) := keep_cell b2 (by simp [*]); have q3 : MZ w M F ado adg w5.heap.size #[.int .i64 tov, .int .i64 tpr, .int .i64 tle] w2 := MZ.below (by assumption) b2; have HI2 : Hid (OLr w2 (some ⟨_, 0, none⟩) len c) := i2; clear i2 b2)
    | (go_at_call 40; refine (toRC2S_any _ _ _ rc _ hnrb (HN.out.below (MZ.bl (by assumption)))).mono ?_; rintro e w3 ⟨rfl, ⟨i3, _⟩, b3⟩; have q0 : w3.cell? ⟨w.heap.size, 0, none⟩ = some (.int .i64 tov) := keep_cell b3 (by simp [*]); have q1 : w3.cell? ⟨w.heap.size, 1, none⟩ = some (.int .i64 tpr) := keep_cell b3 (by simp [*]); have q2 : w3.cell? ⟨w.heap.size, 2, none⟩ = some (.int .i64 tle) := keep_cell b3 (by simp [*]); have q3 : MZ w M F ado adg w5.heap.size #[.int .i64 tov, .int .i64 tpr, .int .i64 tle] w3 := MZ.below (by assumption) b3; have HI3 := hid (HI2.out.below b3); have HJ3 := hid i3; clear i3 b3)
    | (go_at_call 50; refine (toBN3S_any _ _ _ bc _ hnbb (HQ.out.below (MZ.bl (by assumption)))).mono ?_; rintro e w3b ⟨rfl, ⟨i3b, _⟩, b3b⟩; have q0 : w3b.cell? ⟨w.heap.size, 0, none⟩ = some (.int .i64 tov) := keep_cell b3b (by simp [*]); have q1 : w3b.cell? ⟨w.heap.size, 1, none⟩ = some (.int .i64 tpr) := keep_cell b3b (by simp [*]); have q2 : w3b.cell? ⟨w.heap.size, 2, none⟩ = some (.int .i64 tle) := keep_cell b3b (by simp [*]); have q3 : MZ w M F ado adg w5.heap.size #[.int .i64 tov, .int .i64 tpr, .int .i64 tle] w3b := MZ.below (by assumption) b3b; have HI3b := hid (HI3.out.below b3b); have HJ3b := hid (HJ3.out.below b3b); have HK3b := hid i3b; clear i3b b3b)
    | (go_at_call 41; refine (toTol_any _ _ _ _).mono ?_; rintro e w4 ⟨rfl, b4⟩; have q0 : w4.cell? ⟨w.heap.size, 0, none⟩ = some (.int .i64 tov) := keep_cell b4 (by simp [*]); have q1 : w4.cell? ⟨w.heap.size, 1, none⟩ = some (.int .i64 tpr) := keep_cell b4 (by simp [*]); have q2 : w4.cell? ⟨w.heap.size, 2, none⟩ = some (.int .i64 tle) := keep_cell b4 (by simp [*]); have q3 : MZ w M F ado adg w5.heap.size #[.int .i64 tov, .int .i64 tpr, .int .i64 tle] w4 := MZ.below (by assumption) b4; have HI4 := hid (HI3b.out.below b4); have HJ4 := hid (HJ3b.out.below b4); have HK4 := hid (HK3b.out.below b4); clear b4)
    | (go_at_call 19; refine (HIM.out _ _ _ _ _ _ _ HI4.out HJ4.out HK4.out).mono ?_; rintro e w19 ⟨adh, caph, rfl, o19, b19⟩; have q0 : w19.cell? ⟨w.heap.size, 0, none⟩ = some (.int .i64 tov) := keep_cell b19 (by simp [*]); have q1 : w19.cell? ⟨w.heap.size, 1, none⟩ = some (.int .i64 tpr) := keep_cell b19 (by simp [*]); have q2 : w19.cell? ⟨w.heap.size, 2, none⟩ = some (.int .i64 tle) := keep_cell b19 (by simp [*]); have q3 : MZ w M F ado adg w5.heap.size #[.int .i64 tov, .int .i64 tpr, .int .i64 tle] w19 := MZ.below (by assumption) b19; have HE19 : Hid (MLr w19 adh M F) := o19.row; clear o19 b19))
  have HZ19 : Hid (MZ w M F ado adg w5.heap.size #[.int .i64 tov, .int .i64 tpr, .int .i64 tle] w19) := q3
  clear q0 q1 q2 q3 x0 x1 x2 hZd
  go_wp2_with (first
    | (go_at_call 51; go_loud (refine (eqML4S_same _ _ _ _ _ F w19 hM1 HE19.out HZ19.out.o.row).mono ?_; rintro e w20 ⟨rfl, b20⟩; have HZ20 : Hid (MZ w M F ado adg w5.heap.size #[.int .i64 tov, .int .i64 tpr, .int .i64 tle] w20) := HZ19.out.below b20; clear b20))
    | (go_at_call 55; go_loud (refine (heldML4S_is _ _ _ 1 w20 hM1 (by omega) (by omega) HZ20.out.h).mono ?_; rintro e wh ⟨rfl, ew⟩; replace ew := ew.symm; subst ew)))
  go_returns
  exact ⟨rfl, HZ20.out.bl⟩

set_option maxRecDepth 100000 in
theorem lifted (os : Os) (started : os.Started) (H : Type) (enc : TypeId × Value → H) :
    ReturnsInHanded {} Try.checked os 10 .any (Rows.fnExactMatchBillSpec.pre6 enc Try.prog Try.f10 Rows.fnExactMatchBillRow.domain false) (Rows.fnExactMatchBillSpec.post enc Try.prog Try.f10 false true false false) := by
  refine returnsInHanded_of_change (C := Try.checked) own started (by kernel_rfl) Try.func10
    (ChangeSpec.witness6 (enc := enc) (C := Try.checked) false ⟨#[], #[.slice none 0 0, .slice none 0 0, .slice none 0 0, .agg #[.int .i64 0, .int .i64 0, .int .i64 0]], []⟩ 8 (by kernel_rfl) (by kernel_rfl) (by kernel_rfl) (by kernel_rfl)) ?_
  intro W base args ds gs before hval0 hW hcnd _
  have hval : ∀ (j : Nat) t v, Try.f10.params[j]? = some t → args[j]? = some v → Value.okWide Try.prog W .any base t v := hval0
  have hW' := hW
  obtain ⟨p, q, hA0, hV, rfl, hfz, hnd⟩ := hW
  have hA : DataW.TrodAll enc Try.prog W 0 (fun _ => true) true Try.f10.params.toList args.toList ds p := hA0
  rw [Try.params10] at hA hval
  obtain ⟨v0, vs0, d0, ds0, p0, q0, hargs, rfl, rfl, h0, r0⟩ := trodAll_cons hA
  obtain ⟨v1, vs1, d1, ds1, p1, q1, rfl, rfl, rfl, h1, r1⟩ := trodAll_cons r0
  obtain ⟨v2, vs2, d2, ds2, p2, q2, rfl, rfl, rfl, h2, r2⟩ := trodAll_cons r1
  obtain ⟨v3, vs3, d3, ds3, p3, q3, rfl, rfl, rfl, h3, r3⟩ := trodAll_cons r2
  obtain ⟨rfl, rfl, rfl⟩ := trodAll_nil r3
  obtain rfl : args = #[v0, v1, v2, v3] := by cases args; simp_all
  obtain ⟨rfl, rfl⟩ := trodVars_none hV
  have k0 := h0
  have lt0 : ∀ x ∈ p0, x.block < W.heap.size := by obtain ⟨m, hm⟩ := k0; exact DataW.trod_lt m _ _ _ hm
  have k1 := h1
  have lt1 : ∀ x ∈ p1, x.block < W.heap.size := by obtain ⟨m, hm⟩ := k1; exact DataW.trod_lt m _ _ _ hm
  have k2 := h2
  have lt2 : ∀ x ∈ p2, x.block < W.heap.size := by obtain ⟨m, hm⟩ := k2; exact DataW.trod_lt m _ _ _ hm
  have k3 := h3
  have lt3 : ∀ x ∈ p3, x.block < W.heap.size := by obtain ⟨m, hm⟩ := k3; exact DataW.trod_lt m _ _ _ hm
  obtain ⟨ad, len, cap, rfl⟩ := okWide_slice Try.underlying68 (hval 0 68 v0 rfl rfl)
  obtain ⟨c, hl, hc, hr⟩ := OL3_of Try.underlying68 Try.underlying149 (by kernel_rfl) ⟨rfl, rfl, rfl⟩ ⟨by kernel_rfl, by kernel_rfl, by kernel_rfl⟩ Try.underlying9 Try.underlying3 Try.underlying3 h0
  obtain ⟨ar, nr, rcap, rfl⟩ := okWide_slice Try.underlying74 (hval 1 74 v1 rfl rfl)
  obtain ⟨rc, hnr, hrr⟩ := RC2_of Try.underlying74 Try.underlying159 (by kernel_rfl) ⟨rfl, rfl⟩ ⟨by kernel_rfl, by kernel_rfl⟩ Try.underlying3 Try.underlying3 h1
  obtain ⟨ab, nb, bcap, rfl⟩ := okWide_slice Try.underlying88 (hval 2 88 v2 rfl rfl)
  obtain ⟨bc, hnb, hbr⟩ := BN3_of Try.underlying88 Try.underlying166 (by kernel_rfl) ⟨rfl, rfl, rfl⟩ ⟨by kernel_rfl, by kernel_rfl, by kernel_rfl⟩ Try.underlying3 Try.underlying3 Try.underlying3 h2
  obtain ⟨tx0, tx1, tx2, ty0, ty1, ty2, tnn, rfl, rfl, rfl, tg0, tg1, tg2⟩ := Go.Joins.open_agg3 Try.underlying75 (by kernel_rfl) (by kernel_rfl) (hval 3 75 v3 rfl rfl) h3
  obtain ⟨tov, te0, _, _⟩ := DataW.trod_int Try.underlying3 tg0
  obtain rfl : tx0 = .int .i64 tov := by simpa using te0
  obtain ⟨tpr, te1, _, _⟩ := DataW.trod_int Try.underlying3 tg1
  obtain rfl : tx1 = .int .i64 tpr := by simpa using te1
  obtain ⟨tle, te2, _, _⟩ := DataW.trod_int Try.underlying3 tg2
  obtain rfl : tx2 = .int .i64 tle := by simpa using te2
  clear hA0 hval0
  refine (walk ad len cap c ar nr rcap rc ab nb bcap bc tov tpr tle W hl hc hr hnr hrr hnb hbr).mono fun e W' ⟨he, hg⟩ => ?_
  subst he
  exact ⟨_, rfl, _, _, _, [], _, [], hW', (trodAll_cons_mk (shut_bool Try.underlying4 _) trodAll_mk0), (trodAll_cons_mk (Below.trod laidOut (by kernel_rfl) (of_decide_eq_true (by kernel_rfl)) k0 hg lt0) (trodAll_cons_mk (Below.trod laidOut (by kernel_rfl) (of_decide_eq_true (by kernel_rfl)) k1 hg lt1) (trodAll_cons_mk (Below.trod laidOut (by kernel_rfl) (of_decide_eq_true (by kernel_rfl)) k2 hg lt2) (trodAll_cons_mk (Below.trod laidOut (by kernel_rfl) (of_decide_eq_true (by kernel_rfl)) k3 hg lt3) trodAll_mk0)))), rfl, hg.frame _, fun h => by cases h⟩

theorem over : Rows.fnExactMatchBillRow.holds Try.pinned (OpenSpec.ofChange Rows.fnExactMatchBillSpec) :=
  OpenClaim.holds_of_wide 10 Try.f10 rfl rfl rfl rfl rfl rfl rfl ⟨rfl, rfl, rfl, rfl, rfl⟩ rfl rfl rfl rfl rfl (by kernel_rfl) Try.func10 (by kernel_rfl)
    (of_decide_eq_true (by kernel_rfl)) (by unfold Func.isWrapper; first | (rw [if_pos (by decide +kernel)]; kernel_rfl) | (rw [if_neg (by decide +kernel)]; exact ⟨rfl, rfl⟩))
    (fun os started H enc _ => lifted os started H enc)

end Go.Proofs.Ytghphlnpginmhaa.fnExactMatchBill

namespace Go.Proofs.Ytghphlnpginmhaa
theorem fnExactMatchBill_holds : Rows.FnExactMatchBillSaid := fnExactMatchBill.over
#print axioms fnExactMatchBill_holds
end Go.Proofs.Ytghphlnpginmhaa
