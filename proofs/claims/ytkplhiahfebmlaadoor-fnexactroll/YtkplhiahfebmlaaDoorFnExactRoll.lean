/- At every chart and list the program's Roll answers as the model's, leaves its arguments as they were and owns its answer's memory; the seven listed refusals start as the program's text lays them. -/
import Derived.Test.YtkplhiahfebmlaaDoorFr
import Derived.Test.YtkplhiahfebmlaaDoorCq
import Derived.Test.YtkplhiahfebmlaaDoorRf
import Derived.Test.YtkplhiahfebmlaaDoorIo
import Derived.Test.YtkplhiahfebmlaaDoorRs
import Derived.Test.YtkplhiahfebmlaaDoorMk
import Derived.Test.YtkplhiahfebmlaaDoorCi
import Derived.Test.YtkplhiahfebmlaaDoorTie
import Derived.Test.YtkplhiahfebmlaaDoorCards
import Derived.SevenTiedAt
import Derived.OpenVars
import Derived.ChangeVars
import Derived.Carry
import Derived.Lib.SmallJoins
namespace Go.Proofs.YtkplhiahfebmlaaDoor.fnExactRoll
open Go.ChangeShapes Go.WideShapes Go.ChangeAt Go.WideMaps Go.WideElems Go.RowKit
set_option linter.unusedVariables false
set_option linter.unusedSimpArgs false

set_option maxRecDepth 20000 in
set_option maxHeartbeats 4000000 in
theorem walk (ad : Option Addr) (len cap : Nat) (c : Nat → C3) (ai : Option Addr) (leni capi : Nat) (z : Nat → Int) (w : World) (hl : len ≤ maxLen) (hc : ∀ j, (c j).code.size ≤ maxLen) (hr : CR w ad len c) (hli : leni ≤ maxLen) (hri : IR w ai leni z) (hE : EL w) :
    Calls Tryd.prog 8 #[.slice ad len cap, .slice ai leni capi] w fun e w' => e = .returned (.bool true) ∧ Below w.heap.size w w' := by
  have HR : Hid (CR w ad len c) := hr
  have hl2 : (len : Int) ≤ 9223372036854775807 := by unfold maxLen at hl; omega
  have hc2 : Hid (∀ j, ((c j).code.size : Int) ≤ 9223372036854775807) := fun j => by have := hc j; unfold maxLen at this; omega
  have HC : Hid (∀ j, (c j).code.size ≤ maxLen) := hc
  have HE : Hid (EL w) := hE
  have h9 := hE.nine
  clear hr hc hE
  by_cases hbig : (leni : Int) > 1048576
  · have hlm : (leni : Int) ≤ 9223372036854775807 := by unfold maxLen at hli; omega
    go_enter Tryd.func8, Tryd.ntmps8
    go_wp2
    go_returns
    exact ⟨rfl, Below.refl _ _⟩
  have hli2 : (leni : Int) ≤ 1048576 := by omega
  have HZ : Hid (IR w ai leni z) := hri
  obtain ⟨M, hM⟩ : ∃ M, rm len c leni z = M := ⟨_, rfl⟩
  have hM1 : M ≤ 120 := hM ▸ rm_le len c leni z
  have hM2 : (M : Int) ≤ 1048576 := by omega
  have HRO : Hid (∀ (ad : Option Addr) (cap : Nat) (ai : Option Addr) (capi : Nat) (w : World), (len : Int) ≤ 1048576 → CR w ad len c → EL w → IR w ai leni z → Calls Tryd.prog 13 #[.slice ad len cap, .slice ai leni capi] w (NewI M (rollL len c z M) w)) := fun ad cap ai capi w h1 h2 h3 h4 => hM ▸ implRoll_any ad len cap c ai leni capi z w h1 HC.out h2 h3 hli2 h4
  have HSR : Hid (∀ (ad : Option Addr) (cap : Nat) (ai : Option Addr) (capi : Nat) (w : World), (len : Int) ≤ 1048576 → CR w ad len c → IR w ai leni z → Calls Tryd.prog 14 #[.slice ad len cap, .slice ai leni capi] w (NewI M (rollL len c z M) w)) := fun ad cap ai capi w h1 h2 h3 => hM ▸ specRoll_any ad len cap c ai leni capi z w h1 HC.out h2 hli2 h3
  have hzz : Hid (∀ j, j < M → (rollL len c z M)[j]? = some (.int .i64 (rv len c z j))) := fun j hj => rollL_get _ _ _ _ _ hj
  clear hri hM
  have tok1 : True := trivial
  have tok2 : True := trivial
  have tok3 : True := trivial
  have tok4 : True := trivial
  have tok5 : True := trivial
  have tok6 : True := trivial
  have tok7 : True := trivial
  have tok8 : True := trivial
  have tok9 : True := trivial
  have tok10 : True := trivial
  have tok11 : True := trivial
  have tokh : True := trivial
  go_enter Tryd.func8, Tryd.ntmps8
  go_wp2_with (first
    | (go_at_call 17; refine (szCurS_any _ _ _ c _ hl2 hc2.out HR.out).mono ?_; rintro e w1 ⟨v, rfl, hv, b1⟩; rcases hv with rfl | ⟨hv, hb⟩)
    | (go_at_call 19; clear tok1; refine (toCurS_any _ _ _ c _ hb (HR.out.below b1)).mono ?_; rintro e w2 ⟨rfl, i2, b2⟩; have A_2 : Hid (CR w2 (some ⟨w1.heap.size, 0, none⟩) len c) := i2; replace b2 := bel_on b1 b2)
    | (go_at_call 31; clear tok2; refine (toIntS_any _ _ _ z w2 hli2 (HZ.out.below b2)).mono ?_; rintro e w3 ⟨rfl, ⟨i3, _⟩, b3⟩; have A_3 : Hid (CR w3 (some ⟨w1.heap.size, 0, none⟩) len c) := A_2.out.below b3; have Z_3 : Hid (IR w3 (some ⟨w2.heap.size, 0, none⟩) leni (z)) := i3; replace b3 := bel_on b2 b3)
    | (go_at_call 14; refine (HSR.out _ _ _ _ w3 hb A_3.out Z_3.out).mono ?_; rintro e w4 ⟨ad0, cap0, rfl, o4, b4⟩; have A_4 : Hid (CR w4 (some ⟨w1.heap.size, 0, none⟩) len c) := A_3.out.below b4; have Z_4 : Hid (IR w4 (some ⟨w2.heap.size, 0, none⟩) leni (z)) := Z_3.out.below b4; have O_4 : Hid (w4.ownsRow w3.heap.size 3 1 (.slice ad0 M cap0) M (rollL len c z M)) := o4; replace b4 := bel_on b3 b4)
    | (go_at_call 19; clear tok3; refine (toCurS_cells _ _ _ c w4 hb (HR.out.below b4)).mono ?_; rintro e w5 ⟨rfl, ⟨i5, cs5, C5, s5⟩, b5⟩; have O_5 : Hid (w5.ownsRow w3.heap.size 3 1 (.slice ad0 M cap0) M (rollL len c z M)) := row_below O_4.out b5; have X_5 : Hid (CR w5 (some ⟨w4.heap.size, 0, none⟩) len c) := i5; have C_5 : Hid (CB w5 w4.heap.size cs5 30) := C5; replace b5 := bel_on b4 b5; have S5 : Hid (cs5.size = len * 3) := s5; have QO4 : Hid (∀ g, Value.ownBlock (.slice ad0 M cap0) = some g → g < w4.heap.size) := (fun g hg => (O_4.out.lt g hg).2); have Z45 : w4.heap.size < w5.heap.size := C5.lt)
    | (go_at_call 31; clear tok4; refine (toIntS_any _ _ _ z w5 hli2 (HZ.out.below b5)).mono ?_; rintro e w6 ⟨rfl, ⟨i6, cs6, C6, s6⟩, b6⟩; have O_6 : Hid (w6.ownsRow w3.heap.size 3 1 (.slice ad0 M cap0) M (rollL len c z M)) := row_below O_5.out b6; have X_6 : Hid (CR w6 (some ⟨w4.heap.size, 0, none⟩) len c) := X_5.out.below b6; have C_6 : Hid (CB w6 w4.heap.size cs5 30) := C_5.out.below b6 C_5.out.lt; have Y_6 : Hid (IR w6 (some ⟨w5.heap.size, 0, none⟩) leni (z)) := i6; have K_6 : Hid (CB w6 w5.heap.size cs6 3) := C6; replace b6 := bel_on b5 b6; have S6 : Hid (cs6.size = leni) := s6; have Z6 : Hid (w5.heap.size < w6.heap.size) := C6.lt; have Z5 : Hid (w4.heap.size < w5.heap.size) := Z45; have QO : Hid (∀ g, Value.ownBlock (.slice ad0 M cap0) = some g → g < w4.heap.size) := QO4; clear Z45 QO4)
    | (go_at_call 13; clear tok5; refine (HRO.out _ _ _ _ w6 hb X_6.out (HE.out.below b6 h9) Y_6.out).mono ?_; rintro e w7 ⟨adg, capg, rfl, o7, b7⟩; have O_7 : Hid (w7.ownsRow w3.heap.size 3 1 (.slice ad0 M cap0) M (rollL len c z M)) := row_below O_6.out b7; have X_7 : Hid (CR w7 (some ⟨w4.heap.size, 0, none⟩) len c) := X_6.out.below b7; have C_7 : Hid (CB w7 w4.heap.size cs5 30) := C_6.out.below b7 C_6.out.lt; have Y_7 : Hid (IR w7 (some ⟨w5.heap.size, 0, none⟩) leni (z)) := Y_6.out.below b7; have K_7 : Hid (CB w7 w5.heap.size cs6 3) := K_6.out.below b7 K_6.out.lt; have G_7 : Hid (w7.ownsRow w6.heap.size 3 1 (.slice adg M capg) M (rollL len c z M)) := o7; replace b7 := bel_on b6 b7)
    | (go_at_call 27; clear tok6; refine (eqIntS_same _ _ _ _ _ _ w7 hM2 (row_IR G_7.out hzz.out) (row_IR O_7.out hzz.out)).mono ?_; rintro e w8 ⟨rfl, b8⟩; have O_8 : Hid (w8.ownsRow w3.heap.size 3 1 (.slice ad0 M cap0) M (rollL len c z M)) := row_below O_7.out b8; have X_8 : Hid (CR w8 (some ⟨w4.heap.size, 0, none⟩) len c) := X_7.out.below b8; have C_8 : Hid (CB w8 w4.heap.size cs5 30) := C_7.out.below b8 C_7.out.lt; have Y_8 : Hid (IR w8 (some ⟨w5.heap.size, 0, none⟩) leni (z)) := Y_7.out.below b8; have K_8 : Hid (CB w8 w5.heap.size cs6 3) := K_7.out.below b8 K_7.out.lt; have G_8 : Hid (w8.ownsRow w6.heap.size 3 1 (.slice adg M capg) M (rollL len c z M)) := row_below G_7.out b8; replace b8 := bel_on b7 b8)
    | (go_at_call 19; clear tok7; refine (toCurS_any _ _ _ c w8 hb (HR.out.below b8)).mono ?_; rintro e w9 ⟨rfl, i9, b9⟩; have O_9 : Hid (w9.ownsRow w3.heap.size 3 1 (.slice ad0 M cap0) M (rollL len c z M)) := row_below O_8.out b9; have X_9 : Hid (CR w9 (some ⟨w4.heap.size, 0, none⟩) len c) := X_8.out.below b9; have C_9 : Hid (CB w9 w4.heap.size cs5 30) := C_8.out.below b9 C_8.out.lt; have Y_9 : Hid (IR w9 (some ⟨w5.heap.size, 0, none⟩) leni (z)) := Y_8.out.below b9; have K_9 : Hid (CB w9 w5.heap.size cs6 3) := K_8.out.below b9 K_8.out.lt; have G_9 : Hid (w9.ownsRow w6.heap.size 3 1 (.slice adg M capg) M (rollL len c z M)) := row_below G_8.out b9; have J_9 : Hid (CR w9 (some ⟨w8.heap.size, 0, none⟩) len c) := i9; replace b9 := bel_on b8 b9)
    | (go_at_call 21; refine (eqCurS_same _ _ _ _ _ c w9 hb X_9.out J_9.out).mono ?_; rintro e w10 ⟨rfl, b10⟩; have O_10 : Hid (w10.ownsRow w3.heap.size 3 1 (.slice ad0 M cap0) M (rollL len c z M)) := row_below O_9.out b10; have X_10 : Hid (CR w10 (some ⟨w4.heap.size, 0, none⟩) len c) := X_9.out.below b10; have C_10 : Hid (CB w10 w4.heap.size cs5 30) := C_9.out.below b10 C_9.out.lt; have Y_10 : Hid (IR w10 (some ⟨w5.heap.size, 0, none⟩) leni (z)) := Y_9.out.below b10; have K_10 : Hid (CB w10 w5.heap.size cs6 3) := K_9.out.below b10 K_9.out.lt; have G_10 : Hid (w10.ownsRow w6.heap.size 3 1 (.slice adg M capg) M (rollL len c z M)) := row_below G_9.out b10; have J_10 : Hid (CR w10 (some ⟨w8.heap.size, 0, none⟩) len c) := J_9.out.below b10; replace b10 := bel_on b9 b10)
    | (go_at_call 31; clear tok8; refine (toIntS_any _ _ _ z w10 hli2 (HZ.out.below b10)).mono ?_; rintro e w11 ⟨rfl, ⟨i11, _⟩, b11⟩; have O_11 : Hid (w11.ownsRow w3.heap.size 3 1 (.slice ad0 M cap0) M (rollL len c z M)) := row_below O_10.out b11; have C_11 : Hid (CB w11 w4.heap.size cs5 30) := C_10.out.below b11 C_10.out.lt; have Y_11 : Hid (IR w11 (some ⟨w5.heap.size, 0, none⟩) leni (z)) := Y_10.out.below b11; have K_11 : Hid (CB w11 w5.heap.size cs6 3) := K_10.out.below b11 K_10.out.lt; have G_11 : Hid (w11.ownsRow w6.heap.size 3 1 (.slice adg M capg) M (rollL len c z M)) := row_below G_10.out b11; have L_11 : Hid (IR w11 (some ⟨w10.heap.size, 0, none⟩) leni (z)) := i11; replace b11 := bel_on b10 b11)
    | (go_at_call 27; clear tok9; refine (eqIntS_same _ _ _ _ _ _ w11 hli2 Y_11.out L_11.out).mono ?_; rintro e w12 ⟨rfl, b12⟩; have O_12 : Hid (w12.ownsRow w3.heap.size 3 1 (.slice ad0 M cap0) M (rollL len c z M)) := row_below O_11.out b12; have C_12 : Hid (CB w12 w4.heap.size cs5 30) := C_11.out.below b12 C_11.out.lt; have Y_12 : Hid (IR w12 (some ⟨w5.heap.size, 0, none⟩) leni (z)) := Y_11.out.below b12; have K_12 : Hid (CB w12 w5.heap.size cs6 3) := K_11.out.below b12 K_11.out.lt; have G_12 : Hid (w12.ownsRow w6.heap.size 3 1 (.slice adg M capg) M (rollL len c z M)) := row_below G_11.out b12; have L_12 : Hid (IR w12 (some ⟨w10.heap.size, 0, none⟩) leni (z)) := L_11.out.below b12; replace b12 := bel_on b11 b12)
    | (go_at_call 28; refine (markAccS_any _ len len w.heap.size cs5 w12 hb C_12.out S5.out b4.size).mono ?_; rintro e w13 ⟨rfl, kk, b13⟩; have O_13 : Hid (w13.ownsRow w3.heap.size 3 1 (.slice ad0 M cap0) M (rollL len c z M)) := row_block O_12.out (fun g hg => kk g (O_12.out.lt g hg).2 (fun q => C_12.out.ne O_12.out (by decide) (by rw [hg, q]))); have K_13 : Hid (CB w13 w5.heap.size cs6 3) := (fun q => q) (CB.keep K_12.out (kk _ K_12.out.lt (by have := Z5.out; omega))); have G_13 : Hid (w13.ownsRow w6.heap.size 3 1 (.slice adg M capg) M (rollL len c z M)) := row_block G_12.out (fun g hg => kk g (G_12.out.lt g hg).2 (fun q => C_12.out.ne G_12.out (by decide) (by rw [hg, q]))); replace b13 : Below w.heap.size w w13 := b12.trans (b13); clear kk)
    | (go_at_call 29; clear tok10; refine (markIntS_from (3 * (len : Int) + 1) (by omega) _ _ _ w.heap.size _ w13 hli2 (row_of_block K_13.out S6.out b5.size (by omega))).mono ?_; rintro e w14 ⟨rfl, _, kk, b14⟩; have O_14 : Hid (w14.ownsRow w3.heap.size 3 1 (.slice ad0 M cap0) M (rollL len c z M)) := row_block O_13.out (fun g hg => kk g (O_13.out.lt g hg).2 (fun q => by have h1 := QO.out g hg; have h3 := Z5.out; simp only [Value.ownBlock, Option.some.injEq] at q; omega)); have G_14 : Hid (w14.ownsRow w6.heap.size 3 1 (.slice adg M capg) M (rollL len c z M)) := row_block G_13.out (fun g hg => kk g (G_13.out.lt g hg).2 (fun q => by have h1 := (G_13.out.lt g hg).1; have h2 := Z6.out; simp only [Value.ownBlock, Option.some.injEq] at q; omega)); replace b14 : Below w.heap.size w w14 := b13.trans (b14); clear kk)
    | (go_at_call 27; clear tok11; refine (eqIntS_same _ _ _ _ _ _ w14 hM2 (row_IR G_14.out hzz.out) (row_IR O_14.out hzz.out)).mono ?_; rintro e w15 ⟨rfl, b15⟩; have O_15 : Hid (w15.ownsRow w3.heap.size 3 1 (.slice ad0 M cap0) M (rollL len c z M)) := row_below O_14.out b15; have G_15 : Hid (w15.ownsRow w6.heap.size 3 1 (.slice adg M capg) M (rollL len c z M)) := row_below G_14.out b15; replace b15 := bel_on b14 b15)
    | (go_at_call 29; refine (markIntS_any _ _ _ w6.heap.size _ w15 hM2 G_15.out).mono ?_; rintro e w16 ⟨rfl, gb, kk, b16⟩; have O_16 : Hid (w16.ownsRow w3.heap.size 3 1 (.slice ad0 M cap0) M (rollL len c z M)) := row_block O_15.out (fun g hg => kk g (O_15.out.lt g hg).2 (fun q => by have h1 := QO.out g hg; have h2 := (G_15.out.lt g q.symm).1; have h3 := Z6.out; have h4 := Z5.out; omega)); have H_16 : Hid (IR w16 adg M (fun j => (j : Int) + 1)) := gb; replace b16 : Below w.heap.size w w16 := b15.trans (b16.mono (by have := b6.size; omega)); clear kk)
    | (go_at_call 30; clear tokh; refine (heldIntS_any _ _ _ w16 hM2 H_16.out).mono ?_; rintro e wh ⟨rfl, ew⟩; replace ew := ew.symm; subst ew)
    | (go_at_call 19; refine (toCurS_any _ _ _ c w16 hb (HR.out.below b16)).mono ?_; rintro e w17 ⟨rfl, ia, b17⟩; have O_17 : Hid (w17.ownsRow w3.heap.size 3 1 (.slice ad0 M cap0) M (rollL len c z M)) := row_below O_16.out b17; have H_17 : Hid (IR w17 adg M (fun j => (j : Int) + 1)) := H_16.out.below b17; have A_17 : Hid (CR w17 (some ⟨w16.heap.size, 0, none⟩) len c) := ia; replace b17 := bel_on b16 b17)
    | (go_at_call 31; refine (toIntS_any _ _ _ z w17 hli2 (HZ.out.below b17)).mono ?_; rintro e w18 ⟨rfl, ⟨iz, _⟩, b18⟩; have O_18 : Hid (w18.ownsRow w3.heap.size 3 1 (.slice ad0 M cap0) M (rollL len c z M)) := row_below O_17.out b18; have H_18 : Hid (IR w18 adg M (fun j => (j : Int) + 1)) := H_17.out.below b18; have A_18 : Hid (CR w18 (some ⟨w16.heap.size, 0, none⟩) len c) := A_17.out.below b18; have Z_18 : Hid (IR w18 (some ⟨w17.heap.size, 0, none⟩) leni (z)) := iz; replace b18 := bel_on b17 b18)
    | (go_at_call 13; refine (HRO.out _ _ _ _ w18 hb A_18.out (HE.out.below b18 h9) Z_18.out).mono ?_; rintro e w19 ⟨adh, caph, rfl, oh, b19⟩; have O_19 : Hid (w19.ownsRow w3.heap.size 3 1 (.slice ad0 M cap0) M (rollL len c z M)) := row_below O_18.out b19; have H_19 : Hid (IR w19 adg M (fun j => (j : Int) + 1)) := H_18.out.below b19; have A_19 : Hid (CR w19 (some ⟨w16.heap.size, 0, none⟩) len c) := A_18.out.below b19; have Z_19 : Hid (IR w19 (some ⟨w17.heap.size, 0, none⟩) leni (z)) := Z_18.out.below b19; have E_19 : Hid (w19.ownsRow w18.heap.size 3 1 (.slice adh M caph) M (rollL len c z M)) := oh; replace b19 := bel_on b18 b19)
    | (go_at_call 27; refine (eqIntS_same _ _ _ _ _ _ w19 hM2 (row_IR E_19.out hzz.out) (row_IR O_19.out hzz.out)).mono ?_; rintro e w20 ⟨rfl, b20⟩; have O_20 : Hid (w20.ownsRow w3.heap.size 3 1 (.slice ad0 M cap0) M (rollL len c z M)) := row_below O_19.out b20; have H_20 : Hid (IR w20 adg M (fun j => (j : Int) + 1)) := H_19.out.below b20; have A_20 : Hid (CR w20 (some ⟨w16.heap.size, 0, none⟩) len c) := A_19.out.below b20; have Z_20 : Hid (IR w20 (some ⟨w17.heap.size, 0, none⟩) leni (z)) := Z_19.out.below b20; have E_20 : Hid (w20.ownsRow w18.heap.size 3 1 (.slice adh M caph) M (rollL len c z M)) := row_below E_19.out b20; replace b20 := bel_on b19 b20)
    | (go_at_call 30; refine (heldIntS_any _ _ _ w20 hM2 H_20.out).mono ?_; rintro e wh ⟨rfl, ew⟩; replace ew := ew.symm; subst ew))
  · go_returns
    exact ⟨rfl, b1⟩
  · go_returns
    exact ⟨rfl, b20⟩

set_option maxRecDepth 100000 in
theorem lifted (os : Os) (started : os.Started) (H : Type) (enc : TypeId × Value → H) :
    ReturnsInHanded {} Tryd.checked os 8 .any (fun w args => (Rows.fnExactRollSpec.pre enc Tryd.prog Tryd.f8 [] false w args ∧ laidMetH Tryd.prog laid7 w) ∧ sizedMet enc Tryd.prog Tryd.f8 (OpenSpec.ofChange Rows.fnExactRollSpec) false w args)
      (Rows.fnExactRollSpec.post enc Tryd.prog Tryd.f8 false true false false) := by
  refine returnsInHanded_of_change_and (C := Tryd.checked) (X := fun w _ => laidMetH Tryd.prog laid7 w) (fun _ _ _ hh h => h.of_heap hh) own started (by kernel_rfl) Tryd.func8
    (ChangeSpec.witness_shaped (enc := enc) (C := Tryd.checked) (os := os) (X := fun w _ => laidMetH Tryd.prog laid7 w) false (World.doorLaid Tryd.prog 400 os) #[.slice none 0 0, .slice none 0 0] 8 rfl (World.shaped_of_RefB (by kernel_rfl) (by kernel_rfl)) (by kernel_rfl) (by kernel_rfl) (by kernel_rfl) (door_met7 os _)) ?_
  intro W base args ds gs before hval0 hW _ _ hL _
  have hval : ∀ (j : Nat) t v, Tryd.f8.params[j]? = some t → args[j]? = some v → Value.okWide Tryd.prog W .any base t v := hval0
  have hW' := hW
  obtain ⟨p, q, hA0, hV, rfl, hfz, hnd⟩ := hW
  have hA : DataW.TrodAll enc Tryd.prog W 0 (fun _ => true) true Tryd.f8.params.toList args.toList ds p := hA0
  rw [Tryd.params8] at hA hval
  obtain ⟨v0, vs0, d0, ds0, p0, q0, hargs, rfl, rfl, h0, r0⟩ := trodAll_cons hA
  obtain ⟨v1, vs1, d1, ds1, p1, q1, rfl, rfl, rfl, h1, r1⟩ := trodAll_cons r0
  obtain ⟨rfl, rfl, rfl⟩ := trodAll_nil r1
  obtain rfl : args = #[v0, v1] := by cases args; simp_all
  have hV1 := hV
  obtain ⟨x1, x2, x3, x4, x5, x6, x7, rfl⟩ := seven (trodVars_len hV)
  have k0 := h0
  have lt0 : ∀ x ∈ p0, x.block < W.heap.size := by obtain ⟨m, hm⟩ := k0; exact DataW.trod_lt m _ _ _ hm
  have k1 := h1
  have lt1 : ∀ x ∈ p1, x.block < W.heap.size := by obtain ⟨m, hm⟩ := k1; exact DataW.trod_lt m _ _ _ hm
  obtain ⟨ad, len, cap, rfl⟩ := okWide_slice Tryd.underlying33 (hval 0 33 v0 rfl rfl)
  obtain ⟨c, hl, hc, hr⟩ := curs_of Tryd.underlying33 Tryd.underlying74 (by kernel_rfl) ⟨rfl, rfl, rfl⟩ ⟨by kernel_rfl, by kernel_rfl, by kernel_rfl⟩ Tryd.underlying9 Tryd.underlying3 Tryd.underlying3 h0
  obtain ⟨ai, leni, capi, rfl⟩ := okWide_slice Tryd.underlying25 (hval 1 25 v1 rfl rfl)
  obtain ⟨z, hli, hri⟩ := ints_of Tryd.underlying25 Tryd.underlying3 (by kernel_rfl) h1
  clear hA0 hval0
  refine (walk ad len cap c ai leni capi z W hl hc hr hli hri (of_laid7 hL)).mono fun e W' ⟨he, hg⟩ => ?_
  subst he
  exact ⟨_, rfl, _, _, _, [], _, _, hW', (trodAll_cons_mk (shut_bool Tryd.underlying4 _) trodAll_mk0), (trodAll_cons_mk (Below.trod laidOut (by kernel_rfl) (of_decide_eq_true (by kernel_rfl)) k0 hg lt0) (trodAll_cons_mk (Below.trod laidOut (by kernel_rfl) (of_decide_eq_true (by kernel_rfl)) k1 hg lt1) trodAll_mk0)), Below.trodVars laidOut hg (by kernel_rfl) hV1, hg.frame _, fun h => by cases h⟩

theorem row_holds : Rows.FnExactRollSaid :=
  OpenClaim.holds_of_wide 8 Tryd.f8 rfl rfl rfl rfl rfl rfl rfl ⟨rfl, rfl, rfl, rfl, rfl⟩ rfl rfl rfl rfl rfl (by kernel_rfl) Tryd.func8 (by kernel_rfl)
    (of_decide_eq_true (by kernel_rfl)) (by unfold Func.isWrapper; first | (rw [if_pos (by decide +kernel)]; kernel_rfl) | (rw [if_neg (by decide +kernel)]; exact ⟨rfl, rfl⟩))
    (fun os started H enc _ => lifted os started H enc)

end Go.Proofs.YtkplhiahfebmlaaDoor.fnExactRoll

namespace Go.Proofs.YtkplhiahfebmlaaDoor
open Go
theorem fnExactRoll_holds : Rows.FnExactRollCardSaid :=
  Claim7.holds_tied_plain_at .later [] [.sentinel, .sentinel, .sentinel, .sentinel, .sentinel, .sentinel, .sentinel] true (true, "9bc0da8d520b9693c1a8712bd9396e4423562277a24b2e620eca603c48470675") true
    fnExactRoll.row_holds (fun _ h => by cases h) (by kernel_rfl) (fun _ h => by cases h) fnExactRoll_row_tie rfl ⟨rfl, rfl⟩ (by kernel_rfl) rfl
    (fun f fn hf hfn => by
      obtain rfl : f = 8 := Option.some.inj ((show Tryd.prog.funcNamed "loop.example/g00040/laws.FnExactRoll" = some 8 by kernel_rfl).symm.trans hf) |>.symm
      obtain rfl : fn = Tryd.f8 := (Option.some.inj (Tryd.func8.symm.trans hfn)).symm
      exact ⟨by kernel_rfl, fun j t ht => by
        rw [Tryd.params8] at ht
        have hm : t ∈ [33, 25] := by simpa using Array.mem_of_getElem? ht
        have hall : ([33, 25].all fun u => !Tryd.prog.wantsStandIn u) = true := by kernel_rfl
        exact (show Tryd.prog.wantsStandIn t = false by simpa using List.all_eq_true.1 hall t hm)⟩)
    (by kernel_rfl)
#print axioms fnExactRoll_holds
end Go.Proofs.YtkplhiahfebmlaaDoor
