/- FnExactLedgerOk: at every frame and ledger that the size test lets through, the program's LedgerOk answers as the model's, and leaves what it was handed. No conditions. -/
import Derived.Test.YtgnhpjlfdkpaiaaDoorFr
import Derived.Test.YtgnhpjlfdkpaiaaDoorFl
import Derived.Test.YtgnhpjlfdkpaiaaDoorFm
import Derived.Test.YtgnhpjlfdkpaiaaDoorLg
import Derived.Test.YtgnhpjlfdkpaiaaDoorSg
import Derived.Test.YtgnhpjlfdkpaiaaDoorLl
import Derived.Test.YtgnhpjlfdkpaiaaDoorTie
import Derived.Test.YtgnhpjlfdkpaiaaDoorCards
import Derived.SevenTiedAt
import Derived.OpenVars
import Derived.ChangeVars
import Derived.Carry
import Derived.Lib.SmallJoins
namespace Go.Proofs.YtgnhpjlfdkpaiaaDoor.fnExactLedgerOk
open Go.ChangeShapes Go.WideShapes Go.ChangeAt Go.WideMaps Go.WideElems Go.RowKit
set_option linter.unusedVariables false
set_option linter.unusedSimpArgs false

set_option maxRecDepth 20000 in
set_option maxHeartbeats 4000000 in
theorem walk (fa : Option Addr) (flen fcap : Nat) (fc : Nat → C3) (fd fu : Int) (ad : Option Addr) (len cap : Nat) (es : Nat → E4) (hd : Int) (w : World) (hfl : flen ≤ maxLen) (hfc : ∀ j, (fc j).code.size ≤ maxLen) (hfr : CR w fa flen fc) (hl : len ≤ maxLen) (hm : ∀ j, (es j).text.size ≤ maxLen ∧ (es j).n ≤ maxLen) (hr : ER w ad len es) (hE : EL w) :
    Calls Tryd.prog 8 #[.agg #[.slice fa flen fcap, .int .i64 fd, .int .i64 fu], .agg #[.slice ad len cap, .int .i64 hd]] w fun e w' => e = .returned (.bool true) ∧ Below w.heap.size w w' := by
  have HR : Hid (CR w fa flen fc) := hfr
  have HL : Hid (ER w ad len es) := hr
  have hl2 := size_small hfl
  have hll := size_small hl
  have hm2 : Hid (∀ j, ((es j).text.size : Int) ≤ 9223372036854775807 ∧ ((es j).n : Int) ≤ 9223372036854775807) := fun j => ⟨size_small (hm j).1, size_small (hm j).2⟩
  have hc2 : Hid (∀ j, ((fc j).code.size : Int) ≤ 9223372036854775807) := fun j => size_small (hfc j)
  have HC : Hid (∀ j, (fc j).code.size ≤ maxLen) := hfc
  have HE : Hid (EL w) := hE
  have h9 := hE.nine
  clear hfr hfc hE hr hm
  go_enter Tryd.func8, Tryd.ntmps8
  go_wp2_with (first
    | (go_at_call 29; refine (szFrame_any _ _ _ fc _ _ _ hl2 hc2.out ((HR.out.alloc _).alloc _)).mono ?_; rintro e w1 ⟨v, rfl, hv, b1⟩; have XF : Hid (CB w1 w.heap.size #[.slice fa flen fcap, .int .i64 fd, .int .i64 fu] 59) := ((CB.new _ _).alloc _).below b1 (by simp; omega); have XE : Hid (CB w1 (w.heap.size + 1) #[.slice ad len cap, .int .i64 hd] 74) := (CB.newAt (by simp) _ _).below b1 (by simp); have f0 : w1.cell? ⟨w.heap.size, 0, none⟩ = some (.slice fa flen fcap) := (XF.out.cell 0).trans rfl; have f1 : w1.cell? ⟨w.heap.size, 1, none⟩ = some (.int .i64 fd) := (XF.out.cell 1).trans rfl; have f2 : w1.cell? ⟨w.heap.size, 2, none⟩ = some (.int .i64 fu) := (XF.out.cell 2).trans rfl; have e0 : w1.cell? ⟨w.heap.size + 1, 0, none⟩ = some (.slice ad len cap) := (XE.out.cell 0).trans rfl; have e1 : w1.cell? ⟨w.heap.size + 1, 1, none⟩ = some (.int .i64 hd) := (XE.out.cell 1).trans rfl; have b2 : Below w.heap.size w w1 := bel_on (by go_grown) b1; have HB1 : Hid (Below w.heap.size w w1) := b2; clear b1 b2; rcases hv with rfl | ⟨hv, hv2, hb⟩)
    | (go_at_call 38; refine (szLedger_any _ _ _ es _ _ _ hv hv2 hll hm2.out (HL.out.below HB1.out)).mono ?_; rintro e w2 ⟨v2, rfl, hw, b2⟩; have XF2 := XF.out.below b2 XF.out.lt; clear XF; have XF : Hid (CB w2 w.heap.size #[.slice fa flen fcap, .int .i64 fd, .int .i64 fu] 59) := XF2; clear XF2; have f0 : w2.cell? ⟨w.heap.size, 0, none⟩ = some (.slice fa flen fcap) := (XF.out.cell 0).trans rfl; have f1 : w2.cell? ⟨w.heap.size, 1, none⟩ = some (.int .i64 fd) := (XF.out.cell 1).trans rfl; have f2 : w2.cell? ⟨w.heap.size, 2, none⟩ = some (.int .i64 fu) := (XF.out.cell 2).trans rfl; have XE2 := XE.out.below b2 XE.out.lt; clear XE; have XE : Hid (CB w2 (w.heap.size + 1) #[.slice ad len cap, .int .i64 hd] 74) := XE2; clear XE2; have e0 : w2.cell? ⟨w.heap.size + 1, 0, none⟩ = some (.slice ad len cap) := (XE.out.cell 0).trans rfl; have e1 : w2.cell? ⟨w.heap.size + 1, 1, none⟩ = some (.int .i64 hd) := (XE.out.cell 1).trans rfl; have HB2 : Hid (Below w.heap.size w w2) := bel_on HB1.out b2; clear b2; rcases hw with rfl | ⟨hw, hw2, hnn, hnj⟩))
  · go_returns
    exact ⟨rfl, HB1.out⟩
  · go_returns
    exact ⟨rfl, HB2.out⟩
  have r5 : CR w2.drew fa flen fc := HR.out.below HB2.out.drew
  have HNJ : Hid (∀ j, j < len → ((es j).n : Int) ≤ 1048576) := hnj
  clear hnj
  have l5 : ER w2.drew ad len es := HL.out.below HB2.out.drew
  have q5 : Below w.heap.size w w2.drew := HB2.out.drew
  go_region_held3 (fun w' => w'.cell? ⟨w.heap.size, 0, none⟩ = some (.slice fa flen fcap) ∧ w'.cell? ⟨w.heap.size, 1, none⟩ = some (.int .i64 fd) ∧ w'.cell? ⟨w.heap.size, 2, none⟩ = some (.int .i64 fu) ∧ w'.cell? ⟨w.heap.size + 1, 0, none⟩ = some (.slice ad len cap) ∧ w'.cell? ⟨w.heap.size + 1, 1, none⟩ = some (.int .i64 hd) ∧ CR w' fa flen fc ∧ ER w' ad len es ∧ Below w.heap.size w w')
    (refine ⟨?_, ?_, ?_, ?_, ?_, ?_, ?_, ?_⟩ <;> first | assumption | (simp [*]; done))
    (first
      | (go_at_call 31; refine (toFrame_any _ _ _ fc _ _ _ hb (by assumption)).mono ?_; rintro e w3 ⟨ba, rfl, _, i3, b3⟩; have af0 : w3.cell? ⟨w.heap.size, 0, none⟩ = some (.slice fa flen fcap) := keep_cell b3 (by simp [*]); have af1 : w3.cell? ⟨w.heap.size, 1, none⟩ = some (.int .i64 fd) := keep_cell b3 (by simp [*]); have af2 : w3.cell? ⟨w.heap.size, 2, none⟩ = some (.int .i64 fu) := keep_cell b3 (by simp [*]); have ae0 : w3.cell? ⟨w.heap.size + 1, 0, none⟩ = some (.slice ad len cap) := keep_cell b3 (by simp [*]); have ae1 : w3.cell? ⟨w.heap.size + 1, 1, none⟩ = some (.int .i64 hd) := keep_cell b3 (by simp [*]); have ar : CR w3 fa flen fc := CR.below (by assumption) b3; have al : ER w3 ad len es := ER.below (by assumption) b3; have ab : Below w.heap.size w w3 := bel_on (by assumption) b3; try (have y3 : ER w3 (some ⟨be, 0, none⟩) len es := ER.below (by assumption) b3))
      | (go_at_call 40; refine (toLedger_any _ _ _ es _ _ hnn HNJ.out (by assumption)).mono ?_; rintro e w4 ⟨be, bl4, rfl, _, _, o4, b4⟩; have i4 := o4.row; clear o4; have bf0 : w4.cell? ⟨w.heap.size, 0, none⟩ = some (.slice fa flen fcap) := keep_cell b4 (by simp [*]); have bf1 : w4.cell? ⟨w.heap.size, 1, none⟩ = some (.int .i64 fd) := keep_cell b4 (by simp [*]); have bf2 : w4.cell? ⟨w.heap.size, 2, none⟩ = some (.int .i64 fu) := keep_cell b4 (by simp [*]); have be0 : w4.cell? ⟨w.heap.size + 1, 0, none⟩ = some (.slice ad len cap) := keep_cell b4 (by simp [*]); have be1 : w4.cell? ⟨w.heap.size + 1, 1, none⟩ = some (.int .i64 hd) := keep_cell b4 (by simp [*]); have br : CR w4 fa flen fc := CR.below (by assumption) b4; have bl : ER w4 ad len es := ER.below (by assumption) b4; have bb : Below w.heap.size w w4 := bel_on (by assumption) b4; try (have y4 : CR w4 (some ⟨ba, 0, none⟩) flen fc := CR.below (by assumption) b4))
      | (go_at_call 39; refine (specLedger_any _ _ _ fc _ _ _ _ _ es _ _ hb HC.out (by assumption) (by assumption) (fun j => (hm2.out j).1) HNJ.out).mono ?_; rintro e w5 ⟨rfl, b5⟩; have cf0 : w5.cell? ⟨w.heap.size, 0, none⟩ = some (.slice fa flen fcap) := keep_cell b5 (by simp [*]); have cf1 : w5.cell? ⟨w.heap.size, 1, none⟩ = some (.int .i64 fd) := keep_cell b5 (by simp [*]); have cf2 : w5.cell? ⟨w.heap.size, 2, none⟩ = some (.int .i64 fu) := keep_cell b5 (by simp [*]); have ce0 : w5.cell? ⟨w.heap.size + 1, 0, none⟩ = some (.slice ad len cap) := keep_cell b5 (by simp [*]); have ce1 : w5.cell? ⟨w.heap.size + 1, 1, none⟩ = some (.int .i64 hd) := keep_cell b5 (by simp [*]); have cr : CR w5 fa flen fc := CR.below (by assumption) b5; have cl : ER w5 ad len es := ER.below (by assumption) b5; have cb : Below w.heap.size w w5 := bel_on (by assumption) b5))
  clear HB1 HB2 XF XE r5 l5 q5 i3 b3 ar al ab i4 b4 br bl bb y4 b5
  go_wp2_with (first
    | (go_at_call 31; refine (toFrame_any _ _ _ fc _ _ _ hb cr).mono ?_; rintro e w6 ⟨bg, rfl, _, i6, b6⟩; have df0 : w6.cell? ⟨w.heap.size, 0, none⟩ = some (.slice fa flen fcap) := keep_cell b6 cf0; have df1 : w6.cell? ⟨w.heap.size, 1, none⟩ = some (.int .i64 fd) := keep_cell b6 cf1; have df2 : w6.cell? ⟨w.heap.size, 2, none⟩ = some (.int .i64 fu) := keep_cell b6 cf2; have de0 : w6.cell? ⟨w.heap.size + 1, 0, none⟩ = some (.slice ad len cap) := keep_cell b6 ce0; have de1 : w6.cell? ⟨w.heap.size + 1, 1, none⟩ = some (.int .i64 hd) := keep_cell b6 ce1; have r6 : CR w6 fa flen fc := cr.below b6; have l6 : ER w6 ad len es := cl.below b6; have B6 : Below w.heap.size w w6 := bel_on cb b6; have hf0 : (w6.alloc (.cells #[.slice (some ⟨bg, 0, none⟩) flen flen, .int .i64 fd, .int .i64 fu] 26 (0, 0))).cell? ⟨w.heap.size, 0, none⟩ = some (.slice fa flen fcap) := keep_cell ((Below.refl _ _).alloc (Nat.le_refl _) _) df0; have hf1 : (w6.alloc (.cells #[.slice (some ⟨bg, 0, none⟩) flen flen, .int .i64 fd, .int .i64 fu] 26 (0, 0))).cell? ⟨w.heap.size, 1, none⟩ = some (.int .i64 fd) := keep_cell ((Below.refl _ _).alloc (Nat.le_refl _) _) df1; have hf2 : (w6.alloc (.cells #[.slice (some ⟨bg, 0, none⟩) flen flen, .int .i64 fd, .int .i64 fu] 26 (0, 0))).cell? ⟨w.heap.size, 2, none⟩ = some (.int .i64 fu) := keep_cell ((Below.refl _ _).alloc (Nat.le_refl _) _) df2; have he0 : (w6.alloc (.cells #[.slice (some ⟨bg, 0, none⟩) flen flen, .int .i64 fd, .int .i64 fu] 26 (0, 0))).cell? ⟨w.heap.size + 1, 0, none⟩ = some (.slice ad len cap) := keep_cell ((Below.refl _ _).alloc (Nat.le_refl _) _) de0; have he1 : (w6.alloc (.cells #[.slice (some ⟨bg, 0, none⟩) flen flen, .int .i64 fd, .int .i64 fu] 26 (0, 0))).cell? ⟨w.heap.size + 1, 1, none⟩ = some (.int .i64 hd) := keep_cell ((Below.refl _ _).alloc (Nat.le_refl _) _) de1; clear b6)
    | (go_at_call 40; refine (toLedger_any _ _ _ es _ _ hnn HNJ.out (l6.alloc _)).mono ?_; rintro e w7 ⟨bh, bl7, rfl, _, _, o7, b7⟩; have i7 : ER w7 (some ⟨bh, 0, none⟩) len es := o7.row; clear o7; have XG : CB w7 w6.heap.size #[.slice (some ⟨bg, 0, none⟩) flen flen, .int .i64 fd, .int .i64 fu] 26 := (CB.new _ _).below b7 (by simp); have mg0 : w7.cell? ⟨w6.heap.size, 0, none⟩ = some (.slice (some ⟨bg, 0, none⟩) flen flen) := (XG.cell 0).trans rfl; have mg1 : w7.cell? ⟨w6.heap.size, 1, none⟩ = some (.int .i64 fd) := (XG.cell 1).trans rfl; have mg2 : w7.cell? ⟨w6.heap.size, 2, none⟩ = some (.int .i64 fu) := (XG.cell 2).trans rfl; have mf0 : w7.cell? ⟨w.heap.size, 0, none⟩ = some (.slice fa flen fcap) := keep_cell b7 hf0; have mf1 : w7.cell? ⟨w.heap.size, 1, none⟩ = some (.int .i64 fd) := keep_cell b7 hf1; have mf2 : w7.cell? ⟨w.heap.size, 2, none⟩ = some (.int .i64 fu) := keep_cell b7 hf2; have me0 : w7.cell? ⟨w.heap.size + 1, 0, none⟩ = some (.slice ad len cap) := keep_cell b7 he0; have me1 : w7.cell? ⟨w.heap.size + 1, 1, none⟩ = some (.int .i64 hd) := keep_cell b7 he1; have R7 : CR w7 (some ⟨bg, 0, none⟩) flen fc := (i6.alloc _).below b7; have r7 : CR w7 fa flen fc := (r6.alloc _).below b7; have l7 : ER w7 ad len es := (l6.alloc _).below b7; have B7 : Below w.heap.size w w7 := bel_on (bel_on B6 ((Below.refl _ _).alloc (Nat.le_refl _) _)) b7; have nf0 : (w7.alloc (.cells #[.slice (some ⟨bh, 0, none⟩) len len, .int .i64 hd] 29 (0, 0))).cell? ⟨w.heap.size, 0, none⟩ = some (.slice fa flen fcap) := keep_cell ((Below.refl _ _).alloc (Nat.le_refl _) _) mf0; have nf1 : (w7.alloc (.cells #[.slice (some ⟨bh, 0, none⟩) len len, .int .i64 hd] 29 (0, 0))).cell? ⟨w.heap.size, 1, none⟩ = some (.int .i64 fd) := keep_cell ((Below.refl _ _).alloc (Nat.le_refl _) _) mf1; have nf2 : (w7.alloc (.cells #[.slice (some ⟨bh, 0, none⟩) len len, .int .i64 hd] 29 (0, 0))).cell? ⟨w.heap.size, 2, none⟩ = some (.int .i64 fu) := keep_cell ((Below.refl _ _).alloc (Nat.le_refl _) _) mf2; have ne0 : (w7.alloc (.cells #[.slice (some ⟨bh, 0, none⟩) len len, .int .i64 hd] 29 (0, 0))).cell? ⟨w.heap.size + 1, 0, none⟩ = some (.slice ad len cap) := keep_cell ((Below.refl _ _).alloc (Nat.le_refl _) _) me0; have ne1 : (w7.alloc (.cells #[.slice (some ⟨bh, 0, none⟩) len len, .int .i64 hd] 29 (0, 0))).cell? ⟨w.heap.size + 1, 1, none⟩ = some (.int .i64 hd) := keep_cell ((Below.refl _ _).alloc (Nat.le_refl _) _) me1; have ng0 : (w7.alloc (.cells #[.slice (some ⟨bh, 0, none⟩) len len, .int .i64 hd] 29 (0, 0))).cell? ⟨w6.heap.size, 0, none⟩ = some (.slice (some ⟨bg, 0, none⟩) flen flen) := keep_cell ((Below.refl _ _).alloc (Nat.le_refl _) _) mg0; have ng1 : (w7.alloc (.cells #[.slice (some ⟨bh, 0, none⟩) len len, .int .i64 hd] 29 (0, 0))).cell? ⟨w6.heap.size, 1, none⟩ = some (.int .i64 fd) := keep_cell ((Below.refl _ _).alloc (Nat.le_refl _) _) mg1; have ng2 : (w7.alloc (.cells #[.slice (some ⟨bh, 0, none⟩) len len, .int .i64 hd] 29 (0, 0))).cell? ⟨w6.heap.size, 2, none⟩ = some (.int .i64 fu) := keep_cell ((Below.refl _ _).alloc (Nat.le_refl _) _) mg2; clear b7 XG)
    | (go_at_call 17; refine (implLedger_any _ _ _ fc _ _ _ _ _ es _ _ hb HC.out (R7.alloc _) ((HE.out.below B7 h9).alloc' _) (i7.alloc _)).mono ?_; rintro e w8 ⟨rfl, b8⟩; have XH : CB w8 w7.heap.size #[.slice (some ⟨bh, 0, none⟩) len len, .int .i64 hd] 29 := (CB.new _ _).below b8 (by simp); have zh0 : w8.cell? ⟨w7.heap.size, 0, none⟩ = some (.slice (some ⟨bh, 0, none⟩) len len) := (XH.cell 0).trans rfl; have zh1 : w8.cell? ⟨w7.heap.size, 1, none⟩ = some (.int .i64 hd) := (XH.cell 1).trans rfl; have zf0 : w8.cell? ⟨w.heap.size, 0, none⟩ = some (.slice fa flen fcap) := keep_cell b8 nf0; have zf1 : w8.cell? ⟨w.heap.size, 1, none⟩ = some (.int .i64 fd) := keep_cell b8 nf1; have zf2 : w8.cell? ⟨w.heap.size, 2, none⟩ = some (.int .i64 fu) := keep_cell b8 nf2; have ze0 : w8.cell? ⟨w.heap.size + 1, 0, none⟩ = some (.slice ad len cap) := keep_cell b8 ne0; have ze1 : w8.cell? ⟨w.heap.size + 1, 1, none⟩ = some (.int .i64 hd) := keep_cell b8 ne1; have zg0 : w8.cell? ⟨w6.heap.size, 0, none⟩ = some (.slice (some ⟨bg, 0, none⟩) flen flen) := keep_cell b8 ng0; have zg1 : w8.cell? ⟨w6.heap.size, 1, none⟩ = some (.int .i64 fd) := keep_cell b8 ng1; have zg2 : w8.cell? ⟨w6.heap.size, 2, none⟩ = some (.int .i64 fu) := keep_cell b8 ng2; have r8 : CR w8 fa flen fc := (r7.alloc _).below b8; have l8 : ER w8 ad len es := (l7.alloc _).below b8; have R8 : CR w8 (some ⟨bg, 0, none⟩) flen fc := (R7.alloc _).below b8; have L8 : ER w8 (some ⟨bh, 0, none⟩) len es := (i7.alloc _).below b8; have B8 : Below w.heap.size w w8 := bel_on (bel_on B7 ((Below.refl _ _).alloc (Nat.le_refl _) _)) b8; clear b8 XH))
  have k1 : CR w8.drew fa flen fc := CR.drew' r8
  have k2 : ER w8.drew ad len es := ER.drew' l8
  have k3 : CR w8.drew (some ⟨bg, 0, none⟩) flen fc := CR.drew' R8
  have k4 : ER w8.drew (some ⟨bh, 0, none⟩) len es := ER.drew' L8
  have k5 : Below w.heap.size w w8.drew := B8.drew
  go_region_held3 (fun w' => w'.cell? ⟨w.heap.size, 0, none⟩ = some (.slice fa flen fcap) ∧ w'.cell? ⟨w.heap.size, 1, none⟩ = some (.int .i64 fd) ∧ w'.cell? ⟨w.heap.size, 2, none⟩ = some (.int .i64 fu) ∧ w'.cell? ⟨w.heap.size + 1, 0, none⟩ = some (.slice ad len cap) ∧ w'.cell? ⟨w.heap.size + 1, 1, none⟩ = some (.int .i64 hd) ∧ w'.cell? ⟨w6.heap.size, 0, none⟩ = some (.slice (some ⟨bg, 0, none⟩) flen flen) ∧ w'.cell? ⟨w6.heap.size, 1, none⟩ = some (.int .i64 fd) ∧ w'.cell? ⟨w6.heap.size, 2, none⟩ = some (.int .i64 fu) ∧ w'.cell? ⟨w7.heap.size, 0, none⟩ = some (.slice (some ⟨bh, 0, none⟩) len len) ∧ w'.cell? ⟨w7.heap.size, 1, none⟩ = some (.int .i64 hd) ∧ CR w' fa flen fc ∧ ER w' ad len es ∧ CR w' (some ⟨bg, 0, none⟩) flen fc ∧ ER w' (some ⟨bh, 0, none⟩) len es ∧ Below w.heap.size w w')
    (refine ⟨?_, ?_, ?_, ?_, ?_, ?_, ?_, ?_, ?_, ?_, ?_, ?_, ?_, ?_, ?_⟩ <;> first | assumption | (simp [*]; done))
    (first
      | (go_at_call 31; refine (toFrame_any _ _ _ fc _ _ _ hb (by assumption)).mono ?_; rintro e w9 ⟨bc, rfl, _, i9, b9⟩; have sf0 : w9.cell? ⟨w.heap.size, 0, none⟩ = some (.slice fa flen fcap) := keep_cell b9 (by simp [*]); have sf1 : w9.cell? ⟨w.heap.size, 1, none⟩ = some (.int .i64 fd) := keep_cell b9 (by simp [*]); have sf2 : w9.cell? ⟨w.heap.size, 2, none⟩ = some (.int .i64 fu) := keep_cell b9 (by simp [*]); have se0 : w9.cell? ⟨w.heap.size + 1, 0, none⟩ = some (.slice ad len cap) := keep_cell b9 (by simp [*]); have se1 : w9.cell? ⟨w.heap.size + 1, 1, none⟩ = some (.int .i64 hd) := keep_cell b9 (by simp [*]); have sg0 : w9.cell? ⟨w6.heap.size, 0, none⟩ = some (.slice (some ⟨bg, 0, none⟩) flen flen) := keep_cell b9 (by simp [*]); have sg1 : w9.cell? ⟨w6.heap.size, 1, none⟩ = some (.int .i64 fd) := keep_cell b9 (by simp [*]); have sg2 : w9.cell? ⟨w6.heap.size, 2, none⟩ = some (.int .i64 fu) := keep_cell b9 (by simp [*]); have sh0 : w9.cell? ⟨w7.heap.size, 0, none⟩ = some (.slice (some ⟨bh, 0, none⟩) len len) := keep_cell b9 (by simp [*]); have sh1 : w9.cell? ⟨w7.heap.size, 1, none⟩ = some (.int .i64 hd) := keep_cell b9 (by simp [*]); have sr : CR w9 fa flen fc := CR.below (by assumption) b9; have sl : ER w9 ad len es := ER.below (by assumption) b9; have sR : CR w9 (some ⟨bg, 0, none⟩) flen fc := CR.below (by assumption) b9; have sL : ER w9 (some ⟨bh, 0, none⟩) len es := ER.below (by assumption) b9; have sb : Below w.heap.size w w9 := bel_on (by assumption) b9)
      | (go_at_call 33; refine (eqFrame_same _ _ _ _ _ fc _ _ _ hb (by assumption) (by assumption)).mono ?_; rintro e w10 ⟨rfl, b10⟩; have tf0 : w10.cell? ⟨w.heap.size, 0, none⟩ = some (.slice fa flen fcap) := keep_cell b10 (by simp [*]); have tf1 : w10.cell? ⟨w.heap.size, 1, none⟩ = some (.int .i64 fd) := keep_cell b10 (by simp [*]); have tf2 : w10.cell? ⟨w.heap.size, 2, none⟩ = some (.int .i64 fu) := keep_cell b10 (by simp [*]); have te0 : w10.cell? ⟨w.heap.size + 1, 0, none⟩ = some (.slice ad len cap) := keep_cell b10 (by simp [*]); have te1 : w10.cell? ⟨w.heap.size + 1, 1, none⟩ = some (.int .i64 hd) := keep_cell b10 (by simp [*]); have tg0 : w10.cell? ⟨w6.heap.size, 0, none⟩ = some (.slice (some ⟨bg, 0, none⟩) flen flen) := keep_cell b10 (by simp [*]); have tg1 : w10.cell? ⟨w6.heap.size, 1, none⟩ = some (.int .i64 fd) := keep_cell b10 (by simp [*]); have tg2 : w10.cell? ⟨w6.heap.size, 2, none⟩ = some (.int .i64 fu) := keep_cell b10 (by simp [*]); have th0 : w10.cell? ⟨w7.heap.size, 0, none⟩ = some (.slice (some ⟨bh, 0, none⟩) len len) := keep_cell b10 (by simp [*]); have th1 : w10.cell? ⟨w7.heap.size, 1, none⟩ = some (.int .i64 hd) := keep_cell b10 (by simp [*]); have tr : CR w10 fa flen fc := CR.below (by assumption) b10; have tl : ER w10 ad len es := ER.below (by assumption) b10; have tR : CR w10 (some ⟨bg, 0, none⟩) flen fc := CR.below (by assumption) b10; have tL : ER w10 (some ⟨bh, 0, none⟩) len es := ER.below (by assumption) b10; have tb : Below w.heap.size w w10 := bel_on (by assumption) b10))
  go_wp2
  have u1 : CR w10.drew fa flen fc := CR.drew' tr
  have u2 : ER w10.drew ad len es := ER.drew' tl
  have u3 : CR w10.drew (some ⟨bg, 0, none⟩) flen fc := CR.drew' tR
  have u4 : ER w10.drew (some ⟨bh, 0, none⟩) len es := ER.drew' tL
  have u5 : Below w.heap.size w w10.drew := tb.drew
  clear k1 k2 k3 k4 k5 sr sl sR sL sb i9 b9 b10 r8 l8 R8 L8
  go_region_held3 (fun w' => w'.cell? ⟨w.heap.size, 0, none⟩ = some (.slice fa flen fcap) ∧ w'.cell? ⟨w.heap.size, 1, none⟩ = some (.int .i64 fd) ∧ w'.cell? ⟨w.heap.size, 2, none⟩ = some (.int .i64 fu) ∧ w'.cell? ⟨w.heap.size + 1, 0, none⟩ = some (.slice ad len cap) ∧ w'.cell? ⟨w.heap.size + 1, 1, none⟩ = some (.int .i64 hd) ∧ w'.cell? ⟨w6.heap.size, 0, none⟩ = some (.slice (some ⟨bg, 0, none⟩) flen flen) ∧ w'.cell? ⟨w6.heap.size, 1, none⟩ = some (.int .i64 fd) ∧ w'.cell? ⟨w6.heap.size, 2, none⟩ = some (.int .i64 fu) ∧ w'.cell? ⟨w7.heap.size, 0, none⟩ = some (.slice (some ⟨bh, 0, none⟩) len len) ∧ w'.cell? ⟨w7.heap.size, 1, none⟩ = some (.int .i64 hd) ∧ CR w' fa flen fc ∧ ER w' ad len es ∧ CR w' (some ⟨bg, 0, none⟩) flen fc ∧ ER w' (some ⟨bh, 0, none⟩) len es ∧ Below w.heap.size w w')
    (refine ⟨?_, ?_, ?_, ?_, ?_, ?_, ?_, ?_, ?_, ?_, ?_, ?_, ?_, ?_, ?_⟩ <;> first | assumption | (simp [*]; done))
    (first
      | (go_at_call 40; refine (toLedger_any _ _ _ es _ _ hnn HNJ.out (by assumption)).mono ?_; rintro e w11 ⟨bd, bl11, rfl, _, _, o11, b11⟩; have i11 : ER w11 (some ⟨bd, 0, none⟩) len es := o11.row; clear o11; have vf0 : w11.cell? ⟨w.heap.size, 0, none⟩ = some (.slice fa flen fcap) := keep_cell b11 (by simp [*]); have vf1 : w11.cell? ⟨w.heap.size, 1, none⟩ = some (.int .i64 fd) := keep_cell b11 (by simp [*]); have vf2 : w11.cell? ⟨w.heap.size, 2, none⟩ = some (.int .i64 fu) := keep_cell b11 (by simp [*]); have ve0 : w11.cell? ⟨w.heap.size + 1, 0, none⟩ = some (.slice ad len cap) := keep_cell b11 (by simp [*]); have ve1 : w11.cell? ⟨w.heap.size + 1, 1, none⟩ = some (.int .i64 hd) := keep_cell b11 (by simp [*]); have vg0 : w11.cell? ⟨w6.heap.size, 0, none⟩ = some (.slice (some ⟨bg, 0, none⟩) flen flen) := keep_cell b11 (by simp [*]); have vg1 : w11.cell? ⟨w6.heap.size, 1, none⟩ = some (.int .i64 fd) := keep_cell b11 (by simp [*]); have vg2 : w11.cell? ⟨w6.heap.size, 2, none⟩ = some (.int .i64 fu) := keep_cell b11 (by simp [*]); have vh0 : w11.cell? ⟨w7.heap.size, 0, none⟩ = some (.slice (some ⟨bh, 0, none⟩) len len) := keep_cell b11 (by simp [*]); have vh1 : w11.cell? ⟨w7.heap.size, 1, none⟩ = some (.int .i64 hd) := keep_cell b11 (by simp [*]); have vr : CR w11 fa flen fc := CR.below (by assumption) b11; have vl : ER w11 ad len es := ER.below (by assumption) b11; have vR : CR w11 (some ⟨bg, 0, none⟩) flen fc := CR.below (by assumption) b11; have vL : ER w11 (some ⟨bh, 0, none⟩) len es := ER.below (by assumption) b11; have vb : Below w.heap.size w w11 := bel_on (by assumption) b11)
      | (go_at_call 41; refine (eqLedger_same _ _ _ _ _ es _ _ hnn HNJ.out (by assumption) (by assumption)).mono ?_; rintro e w12 ⟨rfl, b12⟩; have xf0 : w12.cell? ⟨w.heap.size, 0, none⟩ = some (.slice fa flen fcap) := keep_cell b12 (by simp [*]); have xf1 : w12.cell? ⟨w.heap.size, 1, none⟩ = some (.int .i64 fd) := keep_cell b12 (by simp [*]); have xf2 : w12.cell? ⟨w.heap.size, 2, none⟩ = some (.int .i64 fu) := keep_cell b12 (by simp [*]); have xe0 : w12.cell? ⟨w.heap.size + 1, 0, none⟩ = some (.slice ad len cap) := keep_cell b12 (by simp [*]); have xe1 : w12.cell? ⟨w.heap.size + 1, 1, none⟩ = some (.int .i64 hd) := keep_cell b12 (by simp [*]); have xg0 : w12.cell? ⟨w6.heap.size, 0, none⟩ = some (.slice (some ⟨bg, 0, none⟩) flen flen) := keep_cell b12 (by simp [*]); have xg1 : w12.cell? ⟨w6.heap.size, 1, none⟩ = some (.int .i64 fd) := keep_cell b12 (by simp [*]); have xg2 : w12.cell? ⟨w6.heap.size, 2, none⟩ = some (.int .i64 fu) := keep_cell b12 (by simp [*]); have xh0 : w12.cell? ⟨w7.heap.size, 0, none⟩ = some (.slice (some ⟨bh, 0, none⟩) len len) := keep_cell b12 (by simp [*]); have xh1 : w12.cell? ⟨w7.heap.size, 1, none⟩ = some (.int .i64 hd) := keep_cell b12 (by simp [*]); have xr : CR w12 fa flen fc := CR.below (by assumption) b12; have xl : ER w12 ad len es := ER.below (by assumption) b12; have xR : CR w12 (some ⟨bg, 0, none⟩) flen fc := CR.below (by assumption) b12; have xL : ER w12 (some ⟨bh, 0, none⟩) len es := ER.below (by assumption) b12; have xb : Below w.heap.size w w12 := bel_on (by assumption) b12))
  go_wp2
  go_returns
  exact ⟨rfl, xb⟩

set_option maxRecDepth 100000 in
theorem lifted (os : Os) (started : os.Started) (H : Type) (enc : TypeId × Value → H) :
    ReturnsInHanded {} Tryd.checked os 8 .any (fun w args => (Rows.fnExactLedgerOkSpec.pre enc Tryd.prog Tryd.f8 [] false w args ∧ laidMetH Tryd.prog laid7 w) ∧ sizedMet enc Tryd.prog Tryd.f8 (OpenSpec.ofChange Rows.fnExactLedgerOkSpec) false w args)
      (Rows.fnExactLedgerOkSpec.post enc Tryd.prog Tryd.f8 false true false false) := by
  refine returnsInHanded_of_change_and (C := Tryd.checked) (X := fun w _ => laidMetH Tryd.prog laid7 w) (fun _ _ _ hh h => h.of_heap hh) own started (by kernel_rfl) Tryd.func8
    (ChangeSpec.witness_shaped (enc := enc) (C := Tryd.checked) (os := os) (X := fun w _ => laidMetH Tryd.prog laid7 w) false (World.doorLaid Tryd.prog 400 os) #[.agg #[.slice none 0 0, .int .i64 0, .int .i64 0], .agg #[.slice none 0 0, .int .i64 0]] 8 rfl (World.shaped_of_RefB (by kernel_rfl) (by kernel_rfl)) (by kernel_rfl) (by kernel_rfl) (by kernel_rfl) (door_met7 os _)) ?_
  intro W base args ds gs before hval0 hW _ _ hL _
  have hval : ∀ (j : Nat) t v, Tryd.f8.params[j]? = some t → args[j]? = some v → Value.okWide Tryd.prog W .any base t v := hval0
  have hW' := hW
  obtain ⟨p, q, hA0, hV, rfl, hfz, hnd⟩ := hW
  have hA : DataW.TrodAll enc Tryd.prog W 0 (fun _ => true) true Tryd.f8.params.toList args.toList ds p := hA0
  rw [Tryd.params8] at hA hval
  obtain ⟨v0, vs0, d0, ds0, p0, q0, hargs, rfl, rfl, h0, r0⟩ := trodAll_cons hA
  obtain ⟨v1, vs1, d1, ds1, p1, q1, rfl, rfl, rfl, h1, r1⟩ := trodAll_cons r0
  obtain ⟨rfl, rfl, rfl⟩ := trodAll_nil r1
  obtain rfl : args = #[v0, v1] := by cases args; simp_all
  have hV1 := hV
  obtain ⟨x1, x2, x3, x4, x5, x6, x7, rfl⟩ := seven (trodVars_len hV)
  have k0 := h0
  have lt0 : ∀ x ∈ p0, x.block < W.heap.size := by obtain ⟨m, hm⟩ := k0; exact DataW.trod_lt m _ _ _ hm
  have k1 := h1
  have lt1 : ∀ x ∈ p1, x.block < W.heap.size := by obtain ⟨m, hm⟩ := k1; exact DataW.trod_lt m _ _ _ hm
  obtain ⟨fx0, fx1, fx2, fy0, fy1, fy2, fnn, rfl, rfl, rfl, fg0, fg1, fg2⟩ := Go.Joins.open_agg3 Tryd.underlying59 (by kernel_rfl) (by kernel_rfl) (hval 0 59 v0 rfl rfl) h0
  obtain ⟨fd, fe1, _, _⟩ := DataW.trod_int Tryd.underlying3 fg1
  obtain rfl : fx1 = .int .i64 fd := by simpa using fe1
  obtain ⟨fu, fe2, _, _⟩ := DataW.trod_int Tryd.underlying3 fg2
  obtain rfl : fx2 = .int .i64 fu := by simpa using fe2
  obtain ⟨fa, flen, fcap, rfl, fT⟩ := slice_of Tryd.underlying57 fg0
  obtain ⟨fc, hfl, hfc, hfr⟩ := curs_of Tryd.underlying57 Tryd.underlying181 (by kernel_rfl) ⟨rfl, rfl, rfl⟩ ⟨by kernel_rfl, by kernel_rfl, by kernel_rfl⟩ Tryd.underlying9 Tryd.underlying3 Tryd.underlying3 fT
  obtain ⟨lx0, lx1, ly0, ly1, lnn, rfl, rfl, rfl, lg0, lg1⟩ := Go.Joins.open_agg2 Tryd.underlying74 (by kernel_rfl) (by kernel_rfl) (hval 1 74 v1 rfl rfl) h1
  obtain ⟨hd, le1, _, _⟩ := DataW.trod_int Tryd.underlying3 lg1
  obtain rfl : lx1 = .int .i64 hd := by simpa using le1
  obtain ⟨ad, len, cap, rfl, lT⟩ := slice_of Tryd.underlying72 lg0
  obtain ⟨es, hl, hm, hr⟩ := entries_of Tryd.underlying72 Tryd.underlying67 (by kernel_rfl) ⟨rfl, rfl, rfl, rfl⟩ ⟨by kernel_rfl, by kernel_rfl, by kernel_rfl, by kernel_rfl⟩ Tryd.underlying3 Tryd.underlying3 Tryd.underlying9 lineT lT
  clear hA0 hval0
  refine (walk fa flen fcap fc fd fu ad len cap es hd W hfl hfc hfr hl hm hr (of_laid7 hL)).mono fun e W' ⟨he, hg⟩ => ?_
  subst he
  exact ⟨_, rfl, _, _, _, [], _, _, hW', (trodAll_cons_mk (shut_bool Tryd.underlying4 _) trodAll_mk0), (trodAll_cons_mk (Below.trod laidOut (by kernel_rfl) (of_decide_eq_true (by kernel_rfl)) k0 hg lt0) (trodAll_cons_mk (Below.trod laidOut (by kernel_rfl) (of_decide_eq_true (by kernel_rfl)) k1 hg lt1) trodAll_mk0)), Below.trodVars laidOut hg (by kernel_rfl) hV1, hg.frame _, fun h => by cases h⟩

theorem row_holds : Rows.FnExactLedgerOkSaid :=
  OpenClaim.holds_of_wide 8 Tryd.f8 rfl rfl rfl rfl rfl rfl rfl ⟨rfl, rfl, rfl, rfl, rfl⟩ rfl rfl rfl rfl rfl (by kernel_rfl) Tryd.func8 (by kernel_rfl)
    (of_decide_eq_true (by kernel_rfl)) (by unfold Func.isWrapper; first | (rw [if_pos (by decide +kernel)]; kernel_rfl) | (rw [if_neg (by decide +kernel)]; exact ⟨rfl, rfl⟩))
    (fun os started H enc _ => lifted os started H enc)

end Go.Proofs.YtgnhpjlfdkpaiaaDoor.fnExactLedgerOk

namespace Go.Proofs.YtgnhpjlfdkpaiaaDoor
open Go
theorem fnExactLedgerOk_holds : Rows.FnExactLedgerOkCardSaid :=
  Claim7.holds_tied_plain_at .later [] [.sentinel, .sentinel, .sentinel, .sentinel, .sentinel, .sentinel, .sentinel] true (true, "ccd1ef061b523aabb51411168b790821f25efaf6af84088de9bcc3d19a071f20") false
    fnExactLedgerOk.row_holds (fun _ h => by cases h) (by kernel_rfl) (fun _ h => by cases h) fnExactLedgerOk_row_tie rfl ⟨rfl, rfl⟩ (by kernel_rfl) rfl
    (fun f fn hf hfn => by
      obtain rfl : f = 8 := Option.some.inj ((show Tryd.prog.funcNamed "loop.example/g00040/laws.FnExactLedgerOk" = some 8 by kernel_rfl).symm.trans hf) |>.symm
      obtain rfl : fn = Tryd.f8 := (Option.some.inj (Tryd.func8.symm.trans hfn)).symm
      exact ⟨by kernel_rfl, fun j t ht => by
        rw [Tryd.params8] at ht
        have hm : t ∈ [59, 74] := by simpa using Array.mem_of_getElem? ht
        have hall : ([59, 74].all fun u => !Tryd.prog.wantsStandIn u) = true := by kernel_rfl
        exact (show Tryd.prog.wantsStandIn t = false by simpa using List.all_eq_true.1 hall t hm)⟩)
    (by kernel_rfl)
#print axioms fnExactLedgerOk_holds
end Go.Proofs.YtgnhpjlfdkpaiaaDoor
