/- At every argument TaxOf answers as the model, every field; it writes into no argument and keeps nothing of one; its answer owns its memory, behind another call too; no condition. -/
import Derived.Test.YtbhghghkgojpgaaRows
import Derived.WalkKit
import Derived.ProofKit
import Derived.OpenShut
import Derived.ShutString
import Derived.ChangeOld
import Derived.Below
import Derived.Handy
import Derived.Carry
import Derived.Lib.SmallJoins
import Derived.Deep.SlicePairs
import Derived.Test.YtbhghghkgojpgaaTy
namespace Go.Proofs.Ytbhghghkgojpgaa.fnExactTaxOf
open Go.ChangeShapes Go.WideShapes Go.ChangeAt Go.RowKit
set_option linter.unusedVariables false
set_option linter.unusedSimpArgs false

theorem own : ownKnob Try.prog.godebug = none := by kernel_rfl
theorem laidOut : laidOutB Try.prog = true := by kernel_rfl

set_option maxRecDepth 20000 in
set_option maxHeartbeats 4000000 in
theorem walk (ad : Option Addr) (len cap : Nat) (c : Nat → T5) (sa1 : Option Addr) (sn1 sc1 : Nat) (ss1 : Nat → ByteArray) (sa2 : Option Addr) (sn2 sc2 : Nat) (ss2 : Nat → ByteArray) (a3 : Int) (a4 : Int) (w : World) (hl : len ≤ maxLen) (hc : ∀ j, (c j).code.size ≤ maxLen) (hr : TR w ad len c) (hsn1 : sn1 ≤ maxLen) (hsz1 : ∀ j, (ss1 j).size ≤ maxLen) (hsr1 : STR w sa1 sn1 ss1) (hsn2 : sn2 ≤ maxLen) (hsz2 : ∀ j, (ss2 j).size ≤ maxLen) (hsr2 : STR w sa2 sn2 ss2) (hw3 : (Lit.int .i64 a3).wf = true) :
    Calls Try.prog 6 #[.slice ad len cap, .slice sa1 sn1 sc1, .slice sa2 sn2 sc2, .int .i64 a3, .int .i64 a4] w fun e w' => e = .returned (.bool true) ∧ Below w.heap.size w w' := by
  have HR : Hid (TR w ad len c) := hr
  have H1 : Hid (STR w sa1 sn1 ss1) := hsr1
  have H2 : Hid (STR w sa2 sn2 ss2) := hsr2
  have hl2 : (len : Int) ≤ 9223372036854775807 := by unfold maxLen at hl; omega
  have hn1 : (sn1 : Int) ≤ 9223372036854775807 := by unfold maxLen at hsn1; omega
  have hn2 : (sn2 : Int) ≤ 9223372036854775807 := by unfold maxLen at hsn2; omega
  have hc2 : Hid (∀ j, ((c j).code.size : Int) ≤ 9223372036854775807) := fun j => by have := hc j; unfold maxLen at this; omega
  have hz1 : Hid (∀ j, ((ss1 j).size : Int) ≤ 9223372036854775807) := fun j => by have := hsz1 j; unfold maxLen at this; omega
  have hz2 : Hid (∀ j, ((ss2 j).size : Int) ≤ 9223372036854775807) := fun j => by have := hsz2 j; unfold maxLen at this; omega
  have HC : Hid (∀ j, (c j).code.size ≤ maxLen) := hc
  have hp64 : Hid (-9223372036854775808 ≤ a3 ∧ a3 ≤ 9223372036854775807) := wf_bd hw3
  have hL6 := blV_l len c sn1 ss1 sn2 ss2 a3 a4
  obtain ⟨B, hB⟩ : ∃ B, blV len c sn1 ss1 sn2 ss2 a3 a4 = B := ⟨_, rfl⟩
  rw [hB] at hL6
  obtain ⟨NT, GR, L, BO, PT⟩ := B
  have HBL : Hid (blV len c sn1 ss1 sn2 ss2 a3 a4 = ⟨NT, GR, L, BO, PT⟩) := hB
  simp only at hL6
  have hL : (L : Int) ≤ 1048576 := by omega
  clear hr hsr1 hsr2 hc hsz1 hsz2 hw3 hB
  have tk1 : True := trivial
  have tk2 : True := trivial
  have tk4 : True := trivial
  have tk5 : True := trivial
  have tk6 : True := trivial
  have tk8 : True := trivial
  have tk9 : True := trivial
  have tk10 : True := trivial
  have tk11 : True := trivial
  have tk12 : True := trivial
  have tk13 : True := trivial
  have tk15 : True := trivial
  have tk16 : True := trivial
  have tk17 : True := trivial
  have tk18 : True := trivial
  have tk20 : True := trivial
  have tk21 : True := trivial
  have tk22 : True := trivial
  have tk24 : True := trivial
  have tk26 : True := trivial
  go_enter Try.func6, Try.ntmps6
  go_wp2_with (first
    | (go_at_call 16; refine (szT5S_any _ _ _ c _ _ (by omega) (by omega) hl2 hc2.out HR.out).mono ?_; rintro e w1 ⟨v1, rfl, hv, b1⟩; have HB1 : Hid (Below w.heap.size w w1) := b1; clear b1; rcases hv with rfl | ⟨hv, hv1, hb, _⟩)
    | (go_at_call 21; clear tk1; refine (szStr_any _ _ _ ss1 _ _ hv hv1 hn1 hz1.out (H1.out.below HB1.out)).mono ?_; rintro e w2 ⟨v2, rfl, hu, rfl⟩; rcases hu with rfl | ⟨hu, hu1, hm⟩)
    | (go_at_call 21; clear tk2; refine (szStr_any _ _ _ ss2 _ _ hu hu1 hn2 hz2.out (H2.out.below HB1.out)).mono ?_; rintro e w3 ⟨v3, rfl, ht, rfl⟩; rcases ht with rfl | ⟨ht, ht1, hf⟩)
    | (go_at_call 18; clear tk4; refine (toT5S_ex _ _ _ c _ hb (HR.out.below HB1.out)).mono ?_; rintro e w4 ⟨b4, _, rfl, _, i4, _, _, d4⟩; have HI4 : Hid (TR w4 (some ⟨b4, 0, none⟩) len c) := i4; have HB4 : Hid (Below w.heap.size w w4) := bel_on HB1.out d4; clear i4 d4)
    | (go_at_call 22; clear tk5; refine (toStr_ex _ _ _ ss1 _ hm (H1.out.below HB4.out)).mono ?_; rintro e w5 ⟨b5, _, rfl, _, i5, _, _, d5⟩; have HI5 : Hid (TR w5 (some ⟨b4, 0, none⟩) len c ∧ STR w5 (some ⟨b5, 0, none⟩) sn1 ss1) := ⟨HI4.out.below d5, i5⟩; have HB5 : Hid (Below w.heap.size w w5) := bel_on HB4.out d5; clear i5 d5)
    | (go_at_call 22; clear tk6; refine (toStr_ex _ _ _ ss2 _ hf (H2.out.below HB5.out)).mono ?_; rintro e w6 ⟨b6, _, rfl, _, i6, _, _, d6⟩; have HI6 : Hid (TR w6 (some ⟨b4, 0, none⟩) len c ∧ STR w6 (some ⟨b5, 0, none⟩) sn1 ss1 ∧ STR w6 (some ⟨b6, 0, none⟩) sn2 ss2) := ⟨HI5.out.1.below d6, HI5.out.2.below d6, i6⟩; have HB6 : Hid (Below w.heap.size w w6) := bel_on HB5.out d6; clear i6 d6)
    | (go_at_call 11; refine (specTax_uni _ _ _ c _ _ _ ss1 _ _ _ ss2 a3 a4 ⟨NT, GR, L, BO, PT⟩ _ HBL.out hb hm hf HC.out (Nat.le_refl _) HI6.out.1 HI6.out.2.1 HI6.out.2.2).mono ?_; rintro e w7 ⟨pa, pc, rfl, p7, d7⟩; unfold bV; have HK7 : Hid (CB (w7.alloc (.cells #[.int .i64 NT, .int .i64 GR, .slice pa L pc] 30 (0, 0))) w7.heap.size #[.int .i64 NT, .int .i64 GR, .slice pa L pc] 30 ∧ PRow (w7.alloc (.cells #[.int .i64 NT, .int .i64 GR, .slice pa L pc] 30 (0, 0))) pa L PT) := ⟨CB.new _ _, PRow.alloc p7 _⟩; have HB7 : Hid (Below w.heap.size w (w7.alloc (.cells #[.int .i64 NT, .int .i64 GR, .slice pa L pc] 30 (0, 0)))) := bel_on (bel_on HB6.out d7) ((Below.refl _ _).alloc (Nat.le_refl _) _); clear p7 d7)
    | (go_at_call 18; clear tk8; refine (toT5S_ex _ _ _ c _ hb (HR.out.below HB7.out)).mono ?_; rintro e w8 ⟨B0, a0, rfl, h0, i8, j8, s8, d8⟩; have HI8 : Hid (TR w8 (some ⟨B0, 0, none⟩) len c ∧ CB w8 B0 a0 79 ∧ a0.size = len * 5) := ⟨i8, j8, s8⟩; have HV8 : Hid (Below (w7.alloc (.cells #[.int .i64 NT, .int .i64 GR, .slice pa L pc] 30 (0, 0))).heap.size (w7.alloc (.cells #[.int .i64 NT, .int .i64 GR, .slice pa L pc] 30 (0, 0))) w8) := d8; have HB8 : Hid (Below w.heap.size w w8) := bel_on HB7.out d8; have HL0 : Hid ((w7.alloc (.cells #[.int .i64 NT, .int .i64 GR, .slice pa L pc] 30 (0, 0))).heap.size ≤ B0 ∧ B0 < w8.heap.size) := ⟨h0, j8.lt⟩; clear i8 j8 s8 d8 h0)
    | (go_at_call 22; clear tk9; refine (toStr_ex _ _ _ ss1 _ hm (H1.out.below HB8.out)).mono ?_; rintro e w9 ⟨B1, a1, rfl, h1, i9, j9, s9, d9⟩; have HI9 : Hid (STR w9 (some ⟨B1, 0, none⟩) sn1 ss1 ∧ CB w9 B1 a1 9 ∧ a1.size = sn1) := ⟨i9, j9, s9⟩; have HJ9 : Hid (TR w9 (some ⟨B0, 0, none⟩) len c ∧ CB w9 B0 a0 79) := ⟨HI8.out.1.below d9, HI8.out.2.1.below d9 HI8.out.2.1.lt⟩; have HV9 : Hid (Below (w7.alloc (.cells #[.int .i64 NT, .int .i64 GR, .slice pa L pc] 30 (0, 0))).heap.size (w7.alloc (.cells #[.int .i64 NT, .int .i64 GR, .slice pa L pc] 30 (0, 0))) w9) := bel_on HV8.out d9; have HB9 : Hid (Below w.heap.size w w9) := bel_on HB8.out d9; have HL1 : Hid (B0 < B1 ∧ B1 < w9.heap.size) := ⟨by have := HL0.out.2; omega, j9.lt⟩; clear i9 j9 s9 d9 h1)
    | (go_at_call 22; clear tk10; refine (toStr_ex _ _ _ ss2 _ hf (H2.out.below HB9.out)).mono ?_; rintro e w10 ⟨B2, a2, rfl, h2, i10, j10, s10, d10⟩; have HX10 : Hid (SX w10 B0 B1 B2 len sn1 sn2 c ss1 ss2) := ⟨HJ9.out.1.below d10, ⟨a0, HJ9.out.2.below d10 HJ9.out.2.lt, HI8.out.2.2⟩, HI9.out.1.below d10, ⟨a1, HI9.out.2.1.below d10 HI9.out.2.1.lt, HI9.out.2.2⟩, i10, ⟨a2, j10, s10⟩⟩; have HV10 : Hid (Below (w7.alloc (.cells #[.int .i64 NT, .int .i64 GR, .slice pa L pc] 30 (0, 0))).heap.size (w7.alloc (.cells #[.int .i64 NT, .int .i64 GR, .slice pa L pc] 30 (0, 0))) w10) := bel_on HV9.out d10; have HB10 : Hid (Below w.heap.size w w10) := bel_on HB9.out d10; have HL2 : Hid (B1 < B2 ∧ B2 < w10.heap.size) := ⟨by have := HL1.out.2; omega, j10.lt⟩; clear i10 j10 s10 d10 h2)
    | (go_at_call 10; clear tk11; refine (implTax_uni _ _ _ c _ _ _ ss1 _ _ _ ss2 a3 a4 ⟨NT, GR, L, BO, PT⟩ _ HBL.out hb hm hf HC.out (Nat.le_refl _) (Nat.le_refl _) hp64.out HX10.out.x0 HX10.out.x1 HX10.out.x2).mono ?_; rintro e w11 ⟨ga, rfl, g11, d11⟩; unfold bV; have HG11 : Hid (SG (w7.alloc (.cells #[.int .i64 NT, .int .i64 GR, .slice pa L pc] 30 (0, 0))) (w11.alloc (.cells #[.int .i64 NT, .int .i64 GR, .slice ga L L] 30 (0, 0))) w11.heap.size w10.heap.size NT GR ga L PT) := hid ⟨bel_on (bel_on HV10.out d11) ((Below.refl _ _).alloc (Nat.le_refl _) _), CB.new _ _, g11.below ((Below.refl _ _).alloc (Nat.le_refl _) _), HV10.out.size, d11.size, fun pb hpb => by rcases g11 with ⟨_, e⟩ | ⟨pb2, ce, e, _, h, _⟩; (rw [e] at hpb; cases hpb); (rw [e] at hpb; simp at hpb; subst hpb; have := h.lt; omega)⟩; have HX11 : Hid (SX (w11.alloc (.cells #[.int .i64 NT, .int .i64 GR, .slice ga L L] 30 (0, 0))) B0 B1 B2 len sn1 sn2 c ss1 ss2) := (HX10.out.below d11).below ((Below.refl _ _).alloc (Nat.le_refl _) _); have HB11 : Hid (Below w.heap.size w (w11.alloc (.cells #[.int .i64 NT, .int .i64 GR, .slice ga L L] 30 (0, 0)))) := bel_on (bel_on HB10.out d11) ((Below.refl _ _).alloc (Nat.le_refl _) _); have KB : CB (w11.alloc (.cells #[.int .i64 NT, .int .i64 GR, .slice ga L L] 30 (0, 0))) w7.heap.size #[.int .i64 NT, .int .i64 GR, .slice pa L pc] 30 := HK7.out.1.below HG11.out.v HK7.out.1.lt; have q0 := (KB.cell 0).trans rfl; have q1 := (KB.cell 1).trans rfl; have q2 := (KB.cell 2).trans rfl; clear KB; clear d11 g11)
    | (go_at_call 23; clear tk12; refine (eqBill_same NT GR ga pa L L pc PT _ hL HG11.out.gx.row (HK7.out.2.below HG11.out.v)).mono ?_; rintro e w12 ⟨rfl, d12⟩; have HG12 : Hid (SG (w7.alloc (.cells #[.int .i64 NT, .int .i64 GR, .slice pa L pc] 30 (0, 0))) w12 w11.heap.size w10.heap.size NT GR ga L PT) := HG11.out.below d12; have HX12 : Hid (SX w12 B0 B1 B2 len sn1 sn2 c ss1 ss2) := HX11.out.below d12; have HB12 : Hid (Below w.heap.size w w12) := bel_on HB11.out d12; clear d12 q0 q1 q2)
    | (go_at_call 18; clear tk13; refine (toT5S_ex _ _ _ c _ hb (HR.out.below HB12.out)).mono ?_; rintro e w13 ⟨b13, _, rfl, _, i13, _, _, d13⟩; have HI13 : Hid (TR w13 (some ⟨b13, 0, none⟩) len c) := i13; have HG13 : Hid (SG (w7.alloc (.cells #[.int .i64 NT, .int .i64 GR, .slice pa L pc] 30 (0, 0))) w13 w11.heap.size w10.heap.size NT GR ga L PT) := HG12.out.below d13; have HX13 : Hid (SX w13 B0 B1 B2 len sn1 sn2 c ss1 ss2) := HX12.out.below d13; have HB13 : Hid (Below w.heap.size w w13) := bel_on HB12.out d13; clear d13 i13)
    | (go_at_call 20; refine (eqT5S_same _ _ _ _ _ c _ hb HX13.out.x0 HI13.out).mono ?_; rintro e w14 ⟨rfl, d14⟩; have HG14 : Hid (SG (w7.alloc (.cells #[.int .i64 NT, .int .i64 GR, .slice pa L pc] 30 (0, 0))) w14 w11.heap.size w10.heap.size NT GR ga L PT) := HG13.out.below d14; have HX14 : Hid (SX w14 B0 B1 B2 len sn1 sn2 c ss1 ss2) := HX13.out.below d14; have HB14 : Hid (Below w.heap.size w w14) := bel_on HB13.out d14; clear d14)
    | (go_at_call 22; clear tk15; refine (toStr_ex _ _ _ ss1 _ hm (H1.out.below HB14.out)).mono ?_; rintro e w15 ⟨b15, _, rfl, _, i15, _, _, d15⟩; have HI15 : Hid (STR w15 (some ⟨b15, 0, none⟩) sn1 ss1) := i15; have HG15 : Hid (SG (w7.alloc (.cells #[.int .i64 NT, .int .i64 GR, .slice pa L pc] 30 (0, 0))) w15 w11.heap.size w10.heap.size NT GR ga L PT) := HG14.out.below d15; have HX15 : Hid (SX w15 B0 B1 B2 len sn1 sn2 c ss1 ss2) := HX14.out.below d15; have HB15 : Hid (Below w.heap.size w w15) := bel_on HB14.out d15; clear d15 i15)
    | (go_at_call 24; clear tk16; refine (eqStr_same _ _ _ _ _ ss1 _ hm HX15.out.x1 HI15.out).mono ?_; rintro e w16 ⟨rfl, d16⟩; have HG16 : Hid (SG (w7.alloc (.cells #[.int .i64 NT, .int .i64 GR, .slice pa L pc] 30 (0, 0))) w16 w11.heap.size w10.heap.size NT GR ga L PT) := HG15.out.below d16; have HX16 : Hid (SX w16 B0 B1 B2 len sn1 sn2 c ss1 ss2) := HX15.out.below d16; have HB16 : Hid (Below w.heap.size w w16) := bel_on HB15.out d16; clear d16)
    | (go_at_call 22; clear tk17; refine (toStr_ex _ _ _ ss2 _ hf (H2.out.below HB16.out)).mono ?_; rintro e w17 ⟨b17, _, rfl, _, i17, _, _, d17⟩; have HI17 : Hid (STR w17 (some ⟨b17, 0, none⟩) sn2 ss2) := i17; have HG17 : Hid (SG (w7.alloc (.cells #[.int .i64 NT, .int .i64 GR, .slice pa L pc] 30 (0, 0))) w17 w11.heap.size w10.heap.size NT GR ga L PT) := HG16.out.below d17; have HX17 : Hid (SX w17 B0 B1 B2 len sn1 sn2 c ss1 ss2) := HX16.out.below d17; have HB17 : Hid (Below w.heap.size w w17) := bel_on HB16.out d17; clear d17 i17)
    | (go_at_call 24; clear tk18; refine (eqStr_same _ _ _ _ _ ss2 _ hf HX17.out.x2 HI17.out).mono ?_; rintro e w18 ⟨rfl, d18⟩; have HG18 : Hid (SG (w7.alloc (.cells #[.int .i64 NT, .int .i64 GR, .slice pa L pc] 30 (0, 0))) w18 w11.heap.size w10.heap.size NT GR ga L PT) := HG17.out.below d18; have HX18 : Hid (SX w18 B0 B1 B2 len sn1 sn2 c ss1 ss2) := HX17.out.below d18; have HB18 : Hid (Below w.heap.size w w18) := bel_on HB17.out d18; clear d18)
    | (go_at_call 25; refine (markT5S_is B0 len len 1 _ _ hb (by omega) (by omega) HX18.out.k0.choose_spec.1 HX18.out.k0.choose_spec.2).mono ?_; rintro e w19 ⟨rfl, _, _, hk, d19⟩; have l0 := HL0.out; have l1 := HL1.out; have l2 := HL2.out; have HG19 : Hid (SG (w7.alloc (.cells #[.int .i64 NT, .int .i64 GR, .slice pa L pc] 30 (0, 0))) w19 w11.heap.size w10.heap.size NT GR ga L PT) := HG18.out.keep hk d19 l0.1 (by omega); have HY19 : Hid ((∃ a, CB w19 B1 a 9 ∧ a.size = sn1) ∧ (∃ a, CB w19 B2 a 9 ∧ a.size = sn2)) := ⟨by obtain ⟨a, h1, h2⟩ := HX18.out.k1; exact ⟨a, h1.kept hk (by omega), h2⟩, by obtain ⟨a, h1, h2⟩ := HX18.out.k2; exact ⟨a, h1.kept hk (by omega), h2⟩⟩; have HB19 : Hid (Below w.heap.size w w19) := HB18.out.trans (d19.mono (Nat.le_trans HB7.out.size l0.1)); clear hk d19 l0 l1 l2)
    | (go_at_call 26; clear tk20; refine (markStr_is B1 sn1 sn1 _ _ _ hm (by omega) (by omega) HY19.out.1.choose_spec.1 HY19.out.1.choose_spec.2).mono ?_; rintro e w20 ⟨rfl, hk, d20⟩; have l0 := HL0.out; have l1 := HL1.out; have l2 := HL2.out; have HG20 : Hid (SG (w7.alloc (.cells #[.int .i64 NT, .int .i64 GR, .slice pa L pc] 30 (0, 0))) w20 w11.heap.size w10.heap.size NT GR ga L PT) := HG19.out.keep hk d20 (by omega) (by omega); have HY20 : Hid (∃ a, CB w20 B2 a 9 ∧ a.size = sn2) := (by obtain ⟨a, h1, h2⟩ := HY19.out.2; exact ⟨a, h1.kept hk (by omega), h2⟩); have HB20 : Hid (Below w.heap.size w w20) := HB19.out.trans (d20.mono (Nat.le_trans HB7.out.size (Nat.le_trans l0.1 (by omega)))); clear hk d20 l0 l1 l2)
    | (go_at_call 26; clear tk21; refine (markStr_is B2 sn2 sn2 _ _ _ hf (by omega) (by omega) HY20.out.choose_spec.1 HY20.out.choose_spec.2).mono ?_; rintro e w21 ⟨rfl, hk, d21⟩; have l0 := HL0.out; have l1 := HL1.out; have l2 := HL2.out; have HG21 : Hid (SG (w7.alloc (.cells #[.int .i64 NT, .int .i64 GR, .slice pa L pc] 30 (0, 0))) w21 w11.heap.size w10.heap.size NT GR ga L PT) := HG20.out.keep hk d21 (by omega) (by omega); have HB21 : Hid (Below w.heap.size w w21) := HB20.out.trans (d21.mono (Nat.le_trans HB7.out.size (Nat.le_trans l0.1 (by omega)))); have GB : CB w21 w11.heap.size #[.int .i64 NT, .int .i64 GR, .slice ga L L] 30 := HG21.out.g; have r0 := (GB.cell 0).trans rfl; have r1 := (GB.cell 1).trans rfl; have r2 := (GB.cell 2).trans rfl; clear GB; have KB : CB w21 w7.heap.size #[.int .i64 NT, .int .i64 GR, .slice pa L pc] 30 := HK7.out.1.below HG21.out.v HK7.out.1.lt; have q0 := (KB.cell 0).trans rfl; have q1 := (KB.cell 1).trans rfl; have q2 := (KB.cell 2).trans rfl; clear KB; clear hk d21 l0 l1 l2)
    | (go_at_call 23; clear tk22; refine (eqBill_same NT GR ga pa L L pc PT _ hL HG21.out.gx.row (HK7.out.2.below HG21.out.v)).mono ?_; rintro e w22 ⟨rfl, d22⟩; have HG22 : Hid (SG (w7.alloc (.cells #[.int .i64 NT, .int .i64 GR, .slice pa L pc] 30 (0, 0))) w22 w11.heap.size w10.heap.size NT GR ga L PT) := HG21.out.below d22; have HB22 : Hid (Below w.heap.size w w22) := bel_on HB21.out d22; clear d22 q0 q1 q2 r0 r1 r2; have GB : CB w22 w11.heap.size #[.int .i64 NT, .int .i64 GR, .slice ga L L] 30 := HG22.out.g; have r0 := (GB.cell 0).trans rfl; have r1 := (GB.cell 1).trans rfl; have r2 := (GB.cell 2).trans rfl; clear GB)
    | (go_at_call 27; refine (markBill_ga NT GR ga L L w10.heap.size PT _ hL6 (by have := HG22.out.g.lt; have := HG22.out.gl; omega) HG22.out.gx).mono ?_; rintro e w23 ⟨rfl, p23, hk, d23⟩; have HM23 : Hid (SM (w7.alloc (.cells #[.int .i64 NT, .int .i64 GR, .slice pa L pc] 30 (0, 0))) w23 w11.heap.size NT GR ga L) := HG22.out.mark p23 hk d23; have HB23 : Hid (Below w.heap.size w w23) := HB22.out.trans (d23.mono HB10.out.size); clear p23 hk d23 r0 r1 r2; have GB : CB w23 w11.heap.size #[.int .i64 NT, .int .i64 GR, .slice ga L L] 30 := HM23.out.g; have r0 := (GB.cell 0).trans rfl; have r1 := (GB.cell 1).trans rfl; have r2 := (GB.cell 2).trans rfl; clear GB)
    | (go_at_call 28; clear tk24; refine (heldBill_is NT GR ga L L 1 _ hL (by omega) (by omega) HM23.out.pm).mono ?_; rintro e w24 ⟨rfl, d24⟩; have HM24 : Hid (SM (w7.alloc (.cells #[.int .i64 NT, .int .i64 GR, .slice pa L pc] 30 (0, 0))) w24 w11.heap.size NT GR ga L) := HM23.out.below d24; have HB24 : Hid (Below w.heap.size w w24) := bel_on HB23.out d24; clear d24 r0 r1 r2)
    | (go_at_call 18; refine (toT5S_ex _ _ _ c _ hb (HR.out.below HB24.out)).mono ?_; rintro e w25 ⟨b25, _, rfl, _, i25, _, _, d25⟩; have HI25 : Hid (TR w25 (some ⟨b25, 0, none⟩) len c) := i25; have HM25 : Hid (SM (w7.alloc (.cells #[.int .i64 NT, .int .i64 GR, .slice pa L pc] 30 (0, 0))) w25 w11.heap.size NT GR ga L) := HM24.out.below d25; have HB25 : Hid (Below w.heap.size w w25) := bel_on HB24.out d25; clear d25 i25)
    | (go_at_call 22; clear tk26; refine (toStr_ex _ _ _ ss1 _ hm (H1.out.below HB25.out)).mono ?_; rintro e w26 ⟨b26, _, rfl, _, i26, _, _, d26⟩; have HI26 : Hid (TR w26 (some ⟨b25, 0, none⟩) len c ∧ STR w26 (some ⟨b26, 0, none⟩) sn1 ss1) := ⟨HI25.out.below d26, i26⟩; have HM26 : Hid (SM (w7.alloc (.cells #[.int .i64 NT, .int .i64 GR, .slice pa L pc] 30 (0, 0))) w26 w11.heap.size NT GR ga L) := HM25.out.below d26; have HB26 : Hid (Below w.heap.size w w26) := bel_on HB25.out d26; clear d26 i26)
    | (go_at_call 22; refine (toStr_ex _ _ _ ss2 _ hf (H2.out.below HB26.out)).mono ?_; rintro e w27 ⟨b27, _, rfl, _, i27, _, _, d27⟩; have HI27 : Hid (TR w27 (some ⟨b25, 0, none⟩) len c ∧ STR w27 (some ⟨b26, 0, none⟩) sn1 ss1 ∧ STR w27 (some ⟨b27, 0, none⟩) sn2 ss2) := ⟨HI26.out.1.below d27, HI26.out.2.below d27, i27⟩; have HM27 : Hid (SM (w7.alloc (.cells #[.int .i64 NT, .int .i64 GR, .slice pa L pc] 30 (0, 0))) w27 w11.heap.size NT GR ga L) := HM26.out.below d27; have HB27 : Hid (Below w.heap.size w w27) := bel_on HB26.out d27; clear d27 i27)
    | (go_at_call 10; refine (implTax_uni _ _ _ c _ _ _ ss1 _ _ _ ss2 a3 a4 ⟨NT, GR, L, BO, PT⟩ _ HBL.out hb hm hf HC.out (Nat.le_refl _) (Nat.le_refl _) hp64.out HI27.out.1 HI27.out.2.1 HI27.out.2.2).mono ?_; rintro e w28 ⟨ha, rfl, g28, d28⟩; unfold bV; have HH28 : Hid (PRow (w28.alloc (.cells #[.int .i64 NT, .int .i64 GR, .slice ha L L] 30 (0, 0))) ha L PT) := (g28.below ((Below.refl _ _).alloc (Nat.le_refl _) _)).row; have HM28 : Hid (SM (w7.alloc (.cells #[.int .i64 NT, .int .i64 GR, .slice pa L pc] 30 (0, 0))) (w28.alloc (.cells #[.int .i64 NT, .int .i64 GR, .slice ha L L] 30 (0, 0))) w11.heap.size NT GR ga L) := (HM27.out.below d28).below ((Below.refl _ _).alloc (Nat.le_refl _) _); have HB28 : Hid (Below w.heap.size w (w28.alloc (.cells #[.int .i64 NT, .int .i64 GR, .slice ha L L] 30 (0, 0)))) := bel_on (bel_on HB27.out d28) ((Below.refl _ _).alloc (Nat.le_refl _) _); have KB : CB (w28.alloc (.cells #[.int .i64 NT, .int .i64 GR, .slice ha L L] 30 (0, 0))) w7.heap.size #[.int .i64 NT, .int .i64 GR, .slice pa L pc] 30 := HK7.out.1.below HM28.out.v HK7.out.1.lt; have q0 := (KB.cell 0).trans rfl; have q1 := (KB.cell 1).trans rfl; have q2 := (KB.cell 2).trans rfl; clear KB; clear d28 g28)
    | (go_at_call 23; refine (eqBill_same NT GR ha pa L L pc PT _ hL HH28.out (HK7.out.2.below HM28.out.v)).mono ?_; rintro e w29 ⟨rfl, d29⟩; have HM29 : Hid (SM (w7.alloc (.cells #[.int .i64 NT, .int .i64 GR, .slice pa L pc] 30 (0, 0))) w29 w11.heap.size NT GR ga L) := HM28.out.below d29; have HB29 : Hid (Below w.heap.size w w29) := bel_on HB28.out d29; clear d29 q0 q1 q2; have GB : CB w29 w11.heap.size #[.int .i64 NT, .int .i64 GR, .slice ga L L] 30 := HM29.out.g; have r0 := (GB.cell 0).trans rfl; have r1 := (GB.cell 1).trans rfl; have r2 := (GB.cell 2).trans rfl; clear GB)
    | (go_at_call 28; refine (heldBill_is NT GR ga L L 1 _ hL (by omega) (by omega) HM29.out.pm).mono ?_; rintro e w30 ⟨rfl, d30⟩; have HB30 : Hid (Below w.heap.size w w30) := bel_on HB29.out d30; clear d30))
  · go_returns
    exact ⟨rfl, HB1.out⟩
  · go_returns
    exact ⟨rfl, HB1.out⟩
  · go_returns
    exact ⟨rfl, HB1.out⟩
  · go_returns
    exact ⟨rfl, HB30.out⟩

set_option maxRecDepth 100000 in
theorem lifted (os : Os) (started : os.Started) (H : Type) (enc : TypeId × Value → H) :
    ReturnsInHanded {} Try.checked os 6 .any (Rows.fnExactTaxOfSpec.pre6 enc Try.prog Try.f6 Rows.fnExactTaxOfRow.domain false) (Rows.fnExactTaxOfSpec.post enc Try.prog Try.f6 false true false false) := by
  refine returnsInHanded_of_change (C := Try.checked) own started (by kernel_rfl) Try.func6
    (ChangeSpec.witness6 (enc := enc) (C := Try.checked) false ⟨#[], #[.slice none 0 0, .slice none 0 0, .slice none 0 0, .int .i64 0, .int .i64 0], []⟩ 8 (by kernel_rfl) (by kernel_rfl) (by kernel_rfl) (by kernel_rfl)) ?_
  intro W base args ds gs before hval0 hW hcnd _
  have hval : ∀ (j : Nat) t v, Try.f6.params[j]? = some t → args[j]? = some v → Value.okWide Try.prog W .any base t v := hval0
  have hW' := hW
  obtain ⟨p, q, hA0, hV, rfl, hfz, hnd⟩ := hW
  have hA : DataW.TrodAll enc Try.prog W 0 (fun _ => true) true Try.f6.params.toList args.toList ds p := hA0
  rw [Try.params6] at hA hval
  obtain ⟨v0, vs0, d0, ds0, p0, q0, hargs, rfl, rfl, h0, r0⟩ := trodAll_cons hA
  obtain ⟨v1, vs1, d1, ds1, p1, q1, rfl, rfl, rfl, h1, r1⟩ := trodAll_cons r0
  obtain ⟨v2, vs2, d2, ds2, p2, q2, rfl, rfl, rfl, h2, r2⟩ := trodAll_cons r1
  obtain ⟨v3, vs3, d3, ds3, p3, q3, rfl, rfl, rfl, h3, r3⟩ := trodAll_cons r2
  obtain ⟨v4, vs4, d4, ds4, p4, q4, rfl, rfl, rfl, h4, r4⟩ := trodAll_cons r3
  obtain ⟨rfl, rfl, rfl⟩ := trodAll_nil r4
  obtain rfl : args = #[v0, v1, v2, v3, v4] := by cases args; simp_all
  obtain ⟨rfl, rfl⟩ := trodVars_none hV
  have k0 := h0
  have lt0 : ∀ x ∈ p0, x.block < W.heap.size := by obtain ⟨m, hm⟩ := k0; exact DataW.trod_lt m _ _ _ hm
  have k1 := h1
  have lt1 : ∀ x ∈ p1, x.block < W.heap.size := by obtain ⟨m, hm⟩ := k1; exact DataW.trod_lt m _ _ _ hm
  have k2 := h2
  have lt2 : ∀ x ∈ p2, x.block < W.heap.size := by obtain ⟨m, hm⟩ := k2; exact DataW.trod_lt m _ _ _ hm
  have k3 := h3
  have lt3 : ∀ x ∈ p3, x.block < W.heap.size := by obtain ⟨m, hm⟩ := k3; exact DataW.trod_lt m _ _ _ hm
  have k4 := h4
  have lt4 : ∀ x ∈ p4, x.block < W.heap.size := by obtain ⟨m, hm⟩ := k4; exact DataW.trod_lt m _ _ _ hm
  obtain ⟨ad, len, cap, rfl⟩ := okWide_slice Try.underlying43 (hval 0 43 v0 rfl rfl)
  obtain ⟨c, hl, hc, hr⟩ := T5_of Try.underlying43 Try.underlying94 (by kernel_rfl) ⟨rfl, rfl, rfl, rfl, rfl⟩ ⟨by kernel_rfl, by kernel_rfl, by kernel_rfl, by kernel_rfl, by kernel_rfl⟩ Try.underlying9 Try.underlying3 Try.underlying3 Try.underlying3 Try.underlying3 h0
  obtain ⟨sa1, sn1, sc1, rfl⟩ := okWide_slice Try.underlying25 (hval 1 25 v1 rfl rfl)
  obtain ⟨ss1, hsn1, hsz1, hsr1⟩ := strs_of Try.underlying25 Try.underlying9 (by kernel_rfl) h1
  obtain ⟨sa2, sn2, sc2, rfl⟩ := okWide_slice Try.underlying25 (hval 2 25 v2 rfl rfl)
  obtain ⟨ss2, hsn2, hsz2, hsr2⟩ := strs_of Try.underlying25 Try.underlying9 (by kernel_rfl) h2
  obtain ⟨a3, rfl, rfl, rfl, w3⟩ := open_int Try.underlying3 (hval 3 3 v3 rfl rfl) h3
  obtain ⟨a4, rfl, rfl, rfl, w4⟩ := open_int Try.underlying3 (hval 4 3 v4 rfl rfl) h4
  clear hA0 hval0
  refine (walk ad len cap c sa1 sn1 sc1 ss1 sa2 sn2 sc2 ss2 a3 a4 W hl hc hr hsn1 hsz1 hsr1 hsn2 hsz2 hsr2 w3).mono fun e W' ⟨he, hg⟩ => ?_
  subst he
  exact ⟨_, rfl, _, _, _, [], _, [], hW', (trodAll_cons_mk (shut_bool Try.underlying4 _) trodAll_mk0), (trodAll_cons_mk (Below.trod laidOut (by kernel_rfl) (of_decide_eq_true (by kernel_rfl)) k0 hg lt0) (trodAll_cons_mk (Below.trod laidOut (by kernel_rfl) (of_decide_eq_true (by kernel_rfl)) k1 hg lt1) (trodAll_cons_mk (Below.trod laidOut (by kernel_rfl) (of_decide_eq_true (by kernel_rfl)) k2 hg lt2) (trodAll_cons_mk (Below.trod laidOut (by kernel_rfl) (of_decide_eq_true (by kernel_rfl)) k3 hg lt3) (trodAll_cons_mk (Below.trod laidOut (by kernel_rfl) (of_decide_eq_true (by kernel_rfl)) k4 hg lt4) trodAll_mk0))))), rfl, hg.frame _, fun h => by cases h⟩

theorem over : Rows.fnExactTaxOfRow.holds Try.pinned (OpenSpec.ofChange Rows.fnExactTaxOfSpec) :=
  OpenClaim.holds_of_wide 6 Try.f6 rfl rfl rfl rfl rfl rfl rfl ⟨rfl, rfl, rfl, rfl, rfl⟩ rfl rfl rfl rfl rfl (by kernel_rfl) Try.func6 (by kernel_rfl)
    (of_decide_eq_true (by kernel_rfl)) (by unfold Func.isWrapper; first | (rw [if_pos (by decide +kernel)]; kernel_rfl) | (rw [if_neg (by decide +kernel)]; exact ⟨rfl, rfl⟩))
    (fun os started H enc _ => lifted os started H enc)

end Go.Proofs.Ytbhghghkgojpgaa.fnExactTaxOf

namespace Go.Proofs.Ytbhghghkgojpgaa
theorem fnExactTaxOf_holds : Rows.FnExactTaxOfSaid := fnExactTaxOf.over
#print axioms fnExactTaxOf_holds
end Go.Proofs.Ytbhghghkgojpgaa
