/- FnExactFrameOk: at every frame that the size test lets through, the program's FrameOk answers as the model's, and leaves what it was handed. No conditions. -/
import Derived.Test.YtgnhpjlfdkpaiaaDoorFr
import Derived.Test.YtgnhpjlfdkpaiaaDoorFl
import Derived.Test.YtgnhpjlfdkpaiaaDoorFm
import Derived.Test.YtgnhpjlfdkpaiaaDoorTie
import Derived.Test.YtgnhpjlfdkpaiaaDoorCards
import Derived.SevenTiedAt
import Derived.OpenVars
import Derived.ChangeVars
import Derived.Carry
import Derived.Lib.SmallJoins
namespace Go.Proofs.YtgnhpjlfdkpaiaaDoor.fnExactFrameOk
open Go.ChangeShapes Go.WideShapes Go.ChangeAt Go.WideMaps Go.WideElems Go.RowKit
set_option linter.unusedVariables false
set_option linter.unusedSimpArgs false

set_option maxRecDepth 20000 in
set_option maxHeartbeats 4000000 in
theorem walk (fa : Option Addr) (flen fcap : Nat) (fc : Nat → C3) (fd fu : Int) (w : World) (hfl : flen ≤ maxLen) (hfc : ∀ j, (fc j).code.size ≤ maxLen) (hfr : CR w fa flen fc) (hE : EL w) :
    Calls Tryd.prog 6 #[.agg #[.slice fa flen fcap, .int .i64 fd, .int .i64 fu]] w fun e w' => e = .returned (.bool true) ∧ Below w.heap.size w w' := by
  have HR : Hid (CR w fa flen fc) := hfr
  have hl2 := size_small hfl
  have hc2 : Hid (∀ j, ((fc j).code.size : Int) ≤ 9223372036854775807) := fun j => size_small (hfc j)
  have HC : Hid (∀ j, (fc j).code.size ≤ maxLen) := hfc
  have HE : Hid (EL w) := hE
  have h9 := hE.nine
  clear hfr hfc hE
  have tok1 : True := trivial
  have tok2 : True := trivial
  go_enter Tryd.func6, Tryd.ntmps6
  go_wp2_with (first
    | (go_at_call 29; refine (szFrame_any _ _ _ fc _ _ _ hl2 hc2.out (HR.out.below (by go_grown))).mono ?_; rintro e w1 ⟨v, rfl, hv, b1⟩; have BX : CB w1 w.heap.size #[.slice fa flen fcap, .int .i64 fd, .int .i64 fu] 59 := (CB.new _ _).below b1 (by simp); have x0 := BX.cell 0; have x1 := BX.cell 1; have x2 := BX.cell 2; simp at x0 x1 x2; replace b1 := bel_on ((Below.refl _ _).alloc (Nat.le_refl _) _) b1; have HBX : Hid (CB w1 w.heap.size #[.slice fa flen fcap, .int .i64 fd, .int .i64 fu] 59) := BX; clear BX; rcases hv with rfl | ⟨hv, hv2, hb⟩)
    | (go_at_call 31; clear tok1; refine (toFrame_any _ _ _ fc _ _ _ hb (HR.out.below b1)).mono ?_; rintro e w2 ⟨ba, rfl, _, i2, b2⟩; have HBX2 := HBX.out.below b2 HBX.out.lt; clear HBX; have HBX : Hid (CB w2 w.heap.size #[.slice fa flen fcap, .int .i64 fd, .int .i64 fu] 59) := HBX2; replace x0 := HBX2.cell 0; replace x1 := HBX2.cell 1; replace x2 := HBX2.cell 2; simp at x0 x1 x2; clear HBX2; replace b2 := bel_on b1 b2)
    | (go_at_call 30; refine (specFrame_any _ _ _ fc _ _ _ hb HC.out i2).mono ?_; rintro e w3 ⟨rfl, b3⟩; have HBX2 := HBX.out.below b3 HBX.out.lt; clear HBX; have HBX : Hid (CB w3 w.heap.size #[.slice fa flen fcap, .int .i64 fd, .int .i64 fu] 59) := HBX2; replace x0 := HBX2.cell 0; replace x1 := HBX2.cell 1; replace x2 := HBX2.cell 2; simp at x0 x1 x2; clear HBX2; replace b3 := bel_on b2 b3)
    | (go_at_call 31; clear tok2; refine (toFrame_any _ _ _ fc _ _ _ hb (HR.out.below b3)).mono ?_; rintro e w4 ⟨bb, rfl, _, i4, b4⟩; have HBX2 := HBX.out.below b4 HBX.out.lt; clear HBX; have HBX : Hid (CB w4 w.heap.size #[.slice fa flen fcap, .int .i64 fd, .int .i64 fu] 59) := HBX2; replace x0 := HBX2.cell 0; replace x1 := HBX2.cell 1; replace x2 := HBX2.cell 2; simp at x0 x1 x2; clear HBX2; replace b4 := bel_on b3 b4)
    | (go_at_call 32; refine (implFrame_any _ _ _ fc _ _ _ hb HC.out (i4.alloc _) ((HE.out.below b4 h9).alloc' _)).mono ?_; rintro e w5 ⟨rfl, b5⟩; have Y5 : CB w5 w4.heap.size #[.slice (some ⟨bb, 0, none⟩) flen flen, .int .i64 fd, .int .i64 fu] 26 := (CB.new _ _).below b5 (by simp); have y0 := Y5.cell 0; have y1 := Y5.cell 1; have y2 := Y5.cell 2; simp at y0 y1 y2; clear Y5; replace b5 := bel_on ((Below.refl _ _).alloc (Nat.le_refl _) _) b5; have i5 := i4.below b5; have HBX2 := HBX.out.below b5 HBX.out.lt; clear HBX; have HBX : Hid (CB w5 w.heap.size #[.slice fa flen fcap, .int .i64 fd, .int .i64 fu] 59) := HBX2; replace x0 := HBX2.cell 0; replace x1 := HBX2.cell 1; replace x2 := HBX2.cell 2; simp at x0 x1 x2; clear HBX2; replace b5 := bel_on b4 b5))
  · go_returns
    exact ⟨rfl, b1⟩
  · have r5 : CR w5.drew fa flen fc := HR.out.below b5.drew
    have r6 : CR w5.drew (some ⟨bb, 0, none⟩) flen fc := i5
    have q5 : Below w.heap.size w w5.drew := b5.drew
    clear HBX b1 b2 b3 b4 b5 i2 i4 HR
    go_region_held3 (fun w' => (w'.cell? ⟨w.heap.size, 0, none⟩ = some (.slice fa flen fcap) ∧ w'.cell? ⟨w.heap.size, 1, none⟩ = some (.int .i64 fd) ∧ w'.cell? ⟨w.heap.size, 2, none⟩ = some (.int .i64 fu)) ∧ (w'.cell? ⟨w4.heap.size, 0, none⟩ = some (.slice (some ⟨bb, 0, none⟩) flen flen) ∧ w'.cell? ⟨w4.heap.size, 1, none⟩ = some (.int .i64 fd) ∧ w'.cell? ⟨w4.heap.size, 2, none⟩ = some (.int .i64 fu)) ∧ CR w' fa flen fc ∧ CR w' (some ⟨bb, 0, none⟩) flen fc ∧ Below w.heap.size w w')
      (refine ⟨⟨?_, ?_, ?_⟩, ⟨?_, ?_, ?_⟩, ?_, ?_, ?_⟩ <;> first | assumption | (simp [*]; done) | (exact Below.drew (by assumption)) | (exact CR.drew' (by assumption)))
      (first
        | (go_at_call 31; refine (toFrame_any _ _ _ fc _ _ _ hb (by assumption)).mono ?_; rintro e w6 ⟨bc, rfl, _, i6, b6⟩; have q0 : w6.cell? ⟨w.heap.size, 0, none⟩ = some (.slice fa flen fcap) := keep_cell b6 (by simp [*]); have q1 : w6.cell? ⟨w.heap.size, 1, none⟩ = some (.int .i64 fd) := keep_cell b6 (by simp [*]); have q2 : w6.cell? ⟨w.heap.size, 2, none⟩ = some (.int .i64 fu) := keep_cell b6 (by simp [*]); have s0 : w6.cell? ⟨w4.heap.size, 0, none⟩ = some (.slice (some ⟨bb, 0, none⟩) flen flen) := keep_cell b6 (by simp [*]); have s1 : w6.cell? ⟨w4.heap.size, 1, none⟩ = some (.int .i64 fd) := keep_cell b6 (by simp [*]); have s2 : w6.cell? ⟨w4.heap.size, 2, none⟩ = some (.int .i64 fu) := keep_cell b6 (by simp [*]); have t1 : CR w6 fa flen fc := CR.below (by assumption) b6; have t2 : CR w6 (some ⟨bb, 0, none⟩) flen fc := CR.below (by assumption) b6; have t3 : Below w.heap.size w w6 := bel_on (by assumption) b6)
        | (go_at_call 33; refine (eqFrame_same _ _ _ _ _ fc _ _ _ hb (by assumption) (by assumption)).mono ?_; rintro e w7 ⟨rfl, b7⟩; have u0 : w7.cell? ⟨w.heap.size, 0, none⟩ = some (.slice fa flen fcap) := keep_cell b7 (by simp [*]); have u1 : w7.cell? ⟨w.heap.size, 1, none⟩ = some (.int .i64 fd) := keep_cell b7 (by simp [*]); have u2 : w7.cell? ⟨w.heap.size, 2, none⟩ = some (.int .i64 fu) := keep_cell b7 (by simp [*]); have u3 : w7.cell? ⟨w4.heap.size, 0, none⟩ = some (.slice (some ⟨bb, 0, none⟩) flen flen) := keep_cell b7 (by simp [*]); have u4 : w7.cell? ⟨w4.heap.size, 1, none⟩ = some (.int .i64 fd) := keep_cell b7 (by simp [*]); have u5 : w7.cell? ⟨w4.heap.size, 2, none⟩ = some (.int .i64 fu) := keep_cell b7 (by simp [*]); have v1 : CR w7 fa flen fc := CR.below (by assumption) b7; have v2 : CR w7 (some ⟨bb, 0, none⟩) flen fc := CR.below (by assumption) b7; have v3 : Below w.heap.size w w7 := bel_on (by assumption) b7))
    go_wp2
    go_returns
    exact ⟨rfl, v3⟩

set_option maxRecDepth 100000 in
theorem lifted (os : Os) (started : os.Started) (H : Type) (enc : TypeId × Value → H) :
    ReturnsInHanded {} Tryd.checked os 6 .any (fun w args => (Rows.fnExactFrameOkSpec.pre enc Tryd.prog Tryd.f6 [] false w args ∧ laidMetH Tryd.prog laid7 w) ∧ sizedMet enc Tryd.prog Tryd.f6 (OpenSpec.ofChange Rows.fnExactFrameOkSpec) false w args)
      (Rows.fnExactFrameOkSpec.post enc Tryd.prog Tryd.f6 false true false false) := by
  refine returnsInHanded_of_change_and (C := Tryd.checked) (X := fun w _ => laidMetH Tryd.prog laid7 w) (fun _ _ _ hh h => h.of_heap hh) own started (by kernel_rfl) Tryd.func6
    (ChangeSpec.witness_shaped (enc := enc) (C := Tryd.checked) (os := os) (X := fun w _ => laidMetH Tryd.prog laid7 w) false (World.doorLaid Tryd.prog 400 os) #[.agg #[.slice none 0 0, .int .i64 0, .int .i64 0]] 8 rfl (World.shaped_of_RefB (by kernel_rfl) (by kernel_rfl)) (by kernel_rfl) (by kernel_rfl) (by kernel_rfl) (door_met7 os _)) ?_
  intro W base args ds gs before hval0 hW _ _ hL _
  have hval : ∀ (j : Nat) t v, Tryd.f6.params[j]? = some t → args[j]? = some v → Value.okWide Tryd.prog W .any base t v := hval0
  have hW' := hW
  obtain ⟨p, q, hA0, hV, rfl, hfz, hnd⟩ := hW
  have hA : DataW.TrodAll enc Tryd.prog W 0 (fun _ => true) true Tryd.f6.params.toList args.toList ds p := hA0
  rw [Tryd.params6] at hA hval
  obtain ⟨v0, vs0, d0, ds0, p0, q0, hargs, rfl, rfl, h0, r0⟩ := trodAll_cons hA
  obtain ⟨rfl, rfl, rfl⟩ := trodAll_nil r0
  obtain rfl : args = #[v0] := by cases args; simp_all
  have hV1 := hV
  obtain ⟨x1, x2, x3, x4, x5, x6, x7, rfl⟩ := seven (trodVars_len hV)
  have k0 := h0
  have lt0 : ∀ x ∈ p0, x.block < W.heap.size := by obtain ⟨m, hm⟩ := k0; exact DataW.trod_lt m _ _ _ hm
  obtain ⟨fx0, fx1, fx2, fy0, fy1, fy2, fnn, rfl, rfl, rfl, fg0, fg1, fg2⟩ := Go.Joins.open_agg3 Tryd.underlying59 (by kernel_rfl) (by kernel_rfl) (hval 0 59 v0 rfl rfl) h0
  obtain ⟨fd, fe1, _, _⟩ := DataW.trod_int Tryd.underlying3 fg1
  obtain rfl : fx1 = .int .i64 fd := by simpa using fe1
  obtain ⟨fu, fe2, _, _⟩ := DataW.trod_int Tryd.underlying3 fg2
  obtain rfl : fx2 = .int .i64 fu := by simpa using fe2
  obtain ⟨fa, flen, fcap, rfl, fT⟩ := slice_of Tryd.underlying57 fg0
  obtain ⟨fc, hfl, hfc, hfr⟩ := curs_of Tryd.underlying57 Tryd.underlying181 (by kernel_rfl) ⟨rfl, rfl, rfl⟩ ⟨by kernel_rfl, by kernel_rfl, by kernel_rfl⟩ Tryd.underlying9 Tryd.underlying3 Tryd.underlying3 fT
  clear hA0 hval0
  refine (walk fa flen fcap fc fd fu W hfl hfc hfr (of_laid7 hL)).mono fun e W' ⟨he, hg⟩ => ?_
  subst he
  exact ⟨_, rfl, _, _, _, [], _, _, hW', (trodAll_cons_mk (shut_bool Tryd.underlying4 _) trodAll_mk0), (trodAll_cons_mk (Below.trod laidOut (by kernel_rfl) (of_decide_eq_true (by kernel_rfl)) k0 hg lt0) trodAll_mk0), Below.trodVars laidOut hg (by kernel_rfl) hV1, hg.frame _, fun h => by cases h⟩

theorem row_holds : Rows.FnExactFrameOkSaid :=
  OpenClaim.holds_of_wide 6 Tryd.f6 rfl rfl rfl rfl rfl rfl rfl ⟨rfl, rfl, rfl, rfl, rfl⟩ rfl rfl rfl rfl rfl (by kernel_rfl) Tryd.func6 (by kernel_rfl)
    (of_decide_eq_true (by kernel_rfl)) (by unfold Func.isWrapper; first | (rw [if_pos (by decide +kernel)]; kernel_rfl) | (rw [if_neg (by decide +kernel)]; exact ⟨rfl, rfl⟩))
    (fun os started H enc _ => lifted os started H enc)

end Go.Proofs.YtgnhpjlfdkpaiaaDoor.fnExactFrameOk

namespace Go.Proofs.YtgnhpjlfdkpaiaaDoor
open Go
theorem fnExactFrameOk_holds : Rows.FnExactFrameOkCardSaid :=
  Claim7.holds_tied_plain_at .later [] [.sentinel, .sentinel, .sentinel, .sentinel, .sentinel, .sentinel, .sentinel] true (true, "ccd1ef061b523aabb51411168b790821f25efaf6af84088de9bcc3d19a071f20") false
    fnExactFrameOk.row_holds (fun _ h => by cases h) (by kernel_rfl) (fun _ h => by cases h) fnExactFrameOk_row_tie rfl ⟨rfl, rfl⟩ (by kernel_rfl) rfl
    (fun f fn hf hfn => by
      obtain rfl : f = 6 := Option.some.inj ((show Tryd.prog.funcNamed "loop.example/g00040/laws.FnExactFrameOk" = some 6 by kernel_rfl).symm.trans hf) |>.symm
      obtain rfl : fn = Tryd.f6 := (Option.some.inj (Tryd.func6.symm.trans hfn)).symm
      exact ⟨by kernel_rfl, fun j t ht => by
        rw [Tryd.params6] at ht
        have hm : t ∈ [59] := by simpa using Array.mem_of_getElem? ht
        have hall : ([59].all fun u => !Tryd.prog.wantsStandIn u) = true := by kernel_rfl
        exact (show Tryd.prog.wantsStandIn t = false by simpa using List.all_eq_true.1 hall t hm)⟩)
    (by kernel_rfl)
#print axioms fnExactFrameOk_holds
end Go.Proofs.YtgnhpjlfdkpaiaaDoor
