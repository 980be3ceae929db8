/- At every drawn code of at most 1048576 bytes (and at a longer one at once) FnCredited answers true: credit notes in drawn steps are together the total; nothing older is written. -/
import Derived.Test.YtlhgmdmbjpaakaaRows
import Derived.WalkKit
import Derived.ProofKit
import Derived.OpenShut
import Derived.ShutString
import Derived.ChangeOld
import Derived.Below
import Derived.Handy
import Derived.Carry
import Derived.Lib.SmallJoins
import Derived.Deep.SlicePairs
import Derived.Test.YtlhgmdmbjpaakaaCr
namespace Go.Proofs.Ytlhgmdmbjpaakaa.fnCredited
open Go.ChangeShapes Go.WideShapes Go.ChangeAt Go.RowKit
set_option linter.unusedVariables false
set_option linter.unusedSimpArgs false

theorem own : ownKnob Try.prog.godebug = none := by kernel_rfl
theorem laidOut : laidOutB Try.prog = true := by kernel_rfl

set_option maxRecDepth 20000 in
set_option maxHeartbeats 4000000 in
theorem walk (a0 : Option Addr) (len0 cap0 : Nat) (z0 : List Int) (w : World) (w0 : IsRow .u8 w a0 len0 cap0 z0) :
    Calls Try.prog 3 #[.slice a0 len0 cap0] w fun e w' => e = .returned (.bool true) ∧ Below w.heap.size w w' := by
  by_cases hbig : (1048576 : Int) < (len0 : Int)
  · go_enter Try.func3, Try.ntmps3
    go_wp2_with (go_at_call 13; refine (big_t _ _ _ _ hbig).mono ?_; rintro e w1 ⟨rfl, ew⟩; replace ew := ew.symm; subst ew)
    go_returns
    exact ⟨rfl, Below.refl _ _⟩
  have hb2 : (len0 : Int) ≤ 1048576 := by omega
  have HRW : Hid (ByteRow w w.heap.size a0 len0) := row_of w0
  have HDR : Hid (∀ W, Below w.heap.size w W → Calls Try.prog 15 #[.slice a0 len0 cap0] W (DcP W)) := fun W b => drawCredit_any a0 len0 cap0 W hb2 (by rcases HRW.out with h | ⟨k, off, e, h1, h2, h3⟩; exact .inl h; exact .inr ⟨k, off, e, by have := b.size; omega, by have := b.size; omega, fun j hj => by obtain ⟨c, c0, c1, hc⟩ := h3 j hj; exact ⟨c, c0, c1, by rw [World.cell?_of_block (w := w) (b.block k h2)]; exact hc⟩⟩)
  have H1 : Hid (∀ W, Calls Try.prog 14 #[.int .i64 100, .int .i64 3, .int .i64 1, .int .i64 2] W fun e w' => e = .returned (.tuple #[.int .i64 67, .bool true]) ∧ Below W.heap.size W w') := fun W => by
    have hB : crB 100 3 1 2 = true := crB_t (by unfold CrP; omega)
    have hv : crV 100 3 1 2 = 67 := by
      rw [crV_yes hB]
      have e1 : dv (100 * (1 + 2)) 3 3 = 100 := by decide
      have e2 : dv (100 * 1) 3 3 = 33 := by decide
      rw [(md_in (a := 100) (num := 1 + 2) (den := 3) (m := 3) (by unfold MdOk; omega) (by rw [e1]; omega) (by rw [e1]; omega)).2, (md_in (a := 100) (num := 1) (den := 3) (m := 3) (by unfold MdOk; omega) (by rw [e2]; omega) (by rw [e2]; omega)).2, e1, e2]
      rfl
    have := implCredit_any 100 3 1 2 W
    rw [hB, hv] at this; exact this
  have tok1 : True := trivial
  clear w0
  go_enter Try.func3, Try.ntmps3
  go_wp2_with (first
    | (go_at_call 13; refine (big_f _ _ _ _ hb2).mono ?_; rintro e wq ⟨rfl, ew⟩; replace ew := ew.symm; subst ew)
    | (go_at_call 14; clear tok1; refine (H1.out _).mono ?_; rintro e w1 ⟨rfl, b1⟩; have HB1 : Hid (Below w.heap.size w w1) := b1; clear b1)
    | (go_at_call 15; refine (HDR.out _ HB1.out).mono ?_; rintro e w2 ⟨t, q, b, m, rfl, hq0, hq1, b2⟩; have HB2 : Hid (Below w.heap.size w w2) := bel_on HB1.out b2; clear b2)
    | (go_at_call 16; refine (specCredit_any _ _ _ _ _).mono ?_; rintro e wq ⟨rfl, ew⟩; replace ew := ew.symm; subst ew; cases hB : crB t q 0 0)
    | (go_at_call 14; refine (implCredit_any _ _ _ _ _).mono ?_; rintro e w3 ⟨rfl, b3⟩; rw [hB]; have HB3 : Hid (Below w.heap.size w w3) := bel_on HB2.out b3; clear b3))
  · go_returns
    exact ⟨rfl, HB3.out⟩
  have hp := crB_p hB
  obtain ⟨ht, hq, _⟩ := hp
  have HBD : Hid (∀ n, -100000000000 ≤ mdV t n q 3 ∧ mdV t n q 3 ≤ 100000000000) := fun n => md_abs t n q 3
  have HZ : Hid (mdV t 0 q 3 = 0) := md_zero ht hq
  have HA : Hid (mdV t q q 3 = t) := md_all ht hq
  have HCR : Hid (∀ B m K : Int, ∀ W, 0 ≤ B → B ≤ q → 0 ≤ m → m ≤ q - B → mdV t B q 3 = K → Calls Try.prog 14 #[.int .i64 t, .int .i64 q, .int .i64 B, .int .i64 m] W fun e w' => (∃ X : Int, e = .returned (.tuple #[.int .i64 (X - K), .bool true]) ∧ -100000000000 ≤ X ∧ X ≤ 100000000000 ∧ Hid (mdV t (B + m) q 3 = X)) ∧ Below W.heap.size W w') := fun B m K W h0 h1 h2 h3 hK => by
    have hB : crB t q B m = true := crB_t ⟨ht, hq, h0, h1, h2, h3⟩
    have := implCredit_any t q B m W
    rw [hB, crV_yes hB, hK] at this
    exact this.mono fun e w' ⟨he, hb⟩ => ⟨⟨mdV t (B + m) q 3, he, (HBD.out _).1, (HBD.out _).2, rfl⟩, hb⟩
  clear hB HDR H1
  go_loopw [13, 14, 15] (fun x y i wr => ∃ (k : Nat) (B K : Int), x = .int .i64 B ∧ y = .int .i64 K ∧ i = .int .i64 (k : Int) ∧ k ≤ 60 ∧ 0 ≤ B ∧ B ≤ q ∧ (k = 60 → B = q) ∧ -100000000000 ≤ K ∧ K ≤ 100000000000 ∧ Hid (mdV t B q 3 = K ∧ Below w.heap.size w wr)) (fun _ _ i _ => 60 - (intOf i).toNat)
  case atStart => exact ⟨0, 0, 0, rfl, rfl, rfl, by omega, by omega, by omega, by omega, by omega, by omega, HZ.out, HB2.out⟩
  case round =>
    obtain ⟨k, B, K, rfl, rfl, rfl, hk, hB0, hB1, hkq, hK0, hK1, HH⟩ := hrel
    by_cases hlt : B < q
    · have hk59 : k < 60 := by
        rcases Nat.lt_or_ge k 60 with g | g
        · exact g
        · have := hkq (by omega); omega
      have hk60 : (k : Int) < 60 := by omega
      have HKQ := hid hkq
      clear hkq
      go_wp2_with (first
        | (go_at_call 17; refine (at_any w.heap.size a0 len0 cap0 k _ hb2 (by omega) (HRW.out.bel HH.out.2)).mono ?_; rintro e wq ⟨x, rfl, x0, x1, ew⟩; replace ew := ew.symm; subst ew; obtain ⟨P, hP⟩ : ∃ P, x * q = P := ⟨_, rfl⟩; have hP0 : 0 ≤ P := hP ▸ Int.mul_nonneg x0 (by omega); have hP1 : P ≤ 255 * 1000000 := hP ▸ Int.mul_le_mul x1 hq.2 (by omega) (by omega); have hw : IntKind.i64.wrap (x * q) = P := (by rw [hP]; exact IntWalk.i64_in _ ⟨by omega, by omega⟩); obtain ⟨T, hT⟩ : ∃ T, P.tdiv 600 = T := ⟨_, rfl⟩; have hT2 : P / 600 = T := (by rw [← hT]; exact (Int.tdiv_eq_ediv_of_nonneg hP0).symm); have hTb : 0 ≤ T ∧ T ≤ 425000 := (by omega); clear hP; rcases (show q - B < 1 + T ∨ (¬ q - B < 1 + T ∧ k = 59) ∨ (¬ q - B < 1 + T ∧ ¬ k = 59) by omega) with hc | ⟨hc, hk9⟩ | ⟨hc, hk9⟩; rotate_left; (have h9 : ((k : Int) == 59) = true := (by simp; omega)); rotate_left; (have h9 : ((k : Int) == 59) = false := (by simp; omega)); rotate_left)
        | (go_at_call 14; refine (HCR.out _ _ K _ hB0 hB1 (by omega) (by omega) HH.out.1).mono ?_; rintro e w4 ⟨⟨X, rfl, X0, X1, HX⟩, b4⟩; have HB4 : Hid (Below w.heap.size w w4) := bel_on HH.out.2 b4; clear b4))
      all_goals go_roundw
      all_goals first
        | (case rel => exact ⟨k + 1, _, _, rfl, rfl, by go_num, by omega, by omega, by omega, fun _ => by omega, by omega, by omega, by rw [show K + (X - K) = X by omega]; exact HX.out, HB4.out⟩)
        | (case measure => simp [intOf]; omega)
    · obtain rfl : B = q := by omega
      have HT : Hid (K = t) := hid (HH.out.1.symm.trans HA.out)
      have he := eq_t HT.out
      go_wp2
      go_returns
      exact ⟨rfl, HH.out.2⟩

set_option maxRecDepth 100000 in
theorem lifted (os : Os) (started : os.Started) (H : Type) (enc : TypeId × Value → H) :
    ReturnsInHanded {} Try.checked os 3 .any (Rows.fnCreditedSpec.pre6 enc Try.prog Try.f3 Rows.fnCreditedRow.domain false) (Rows.fnCreditedSpec.post enc Try.prog Try.f3 false true false false) := by
  refine returnsInHanded_of_change (C := Try.checked) own started (by kernel_rfl) Try.func3
    (ChangeSpec.witness6 (enc := enc) (C := Try.checked) false ⟨#[], #[.slice none 0 0], []⟩ 8 (by kernel_rfl) (by kernel_rfl) (by kernel_rfl) (by kernel_rfl)) ?_
  intro W base args ds gs before hval0 hW hcnd _
  have hval : ∀ (j : Nat) t v, Try.f3.params[j]? = some t → args[j]? = some v → Value.okWide Try.prog W .any base t v := hval0
  have hW' := hW
  obtain ⟨p, q, hA0, hV, rfl, hfz, hnd⟩ := hW
  have hA : DataW.TrodAll enc Try.prog W 0 (fun _ => true) true Try.f3.params.toList args.toList ds p := hA0
  rw [Try.params3] at hA hval
  obtain ⟨v0, vs0, d0, ds0, p0, q0, hargs, rfl, rfl, h0, r0⟩ := trodAll_cons hA
  obtain ⟨rfl, rfl, rfl⟩ := trodAll_nil r0
  obtain rfl : args = #[v0] := by cases args; simp_all
  obtain ⟨rfl, rfl⟩ := trodVars_none hV
  have k0 := h0
  have lt0 : ∀ x ∈ p0, x.block < W.heap.size := by obtain ⟨m, hm⟩ := k0; exact DataW.trod_lt m _ _ _ hm
  obtain ⟨a0, len0, cap0, rfl⟩ := okWide_slice Try.underlying22 (hval 0 22 v0 rfl rfl)
  obtain ⟨z0, w0⟩ : ∃ zs, IsRow .u8 W a0 len0 cap0 zs := by
    obtain ⟨fuel, hf⟩ := h0
    rcases open_ints Try.underlying22 Try.underlying5 (by kernel_rfl) hf with ⟨hcs, _⟩ | ⟨x, l, c, zs, hcs, _, hl, hm, hz, _, hcell, hwz⟩
    · simp [Value.cells] at hcs
      obtain ⟨rfl, rfl, rfl⟩ := hcs
      exact ⟨[], .inl ⟨rfl, rfl, rfl, rfl⟩⟩
    · simp [Value.cells] at hcs
      obtain ⟨rfl, rfl, rfl⟩ := hcs
      exact ⟨zs, .inr ⟨_, rfl, hl, hm, by simpa using hz, hcell, hwz⟩⟩
  clear hA0 hval0
  refine (walk a0 len0 cap0 z0 W w0).mono fun e W' ⟨he, hg⟩ => ?_
  subst he
  exact ⟨_, rfl, _, _, _, [], _, [], hW', (trodAll_cons_mk (shut_bool Try.underlying4 _) trodAll_mk0), (trodAll_cons_mk (Below.trod laidOut (by kernel_rfl) (of_decide_eq_true (by kernel_rfl)) k0 hg lt0) trodAll_mk0), rfl, hg.frame _, fun h => by cases h⟩

theorem over : Rows.fnCreditedRow.holds Try.pinned (OpenSpec.ofChange Rows.fnCreditedSpec) :=
  OpenClaim.holds_of_wide 3 Try.f3 rfl rfl rfl rfl rfl rfl rfl ⟨rfl, rfl, rfl, rfl, rfl⟩ rfl rfl rfl rfl rfl (by kernel_rfl) Try.func3 (by kernel_rfl)
    (of_decide_eq_true (by kernel_rfl)) (by unfold Func.isWrapper; first | (rw [if_pos (by decide +kernel)]; kernel_rfl) | (rw [if_neg (by decide +kernel)]; exact ⟨rfl, rfl⟩))
    (fun os started H enc _ => lifted os started H enc)

end Go.Proofs.Ytlhgmdmbjpaakaa.fnCredited

namespace Go.Proofs.Ytlhgmdmbjpaakaa
theorem fnCredited_holds : Rows.FnCreditedSaid := fnCredited.over
#print axioms fnCredited_holds
end Go.Proofs.Ytlhgmdmbjpaakaa
