/- FnExactSpread: at every argument that the law takes Spread answers as the model, entry by entry, writes into no argument and keeps nothing of one, and its answer owns its memory, behind another call too. Conditions: the seven listed refusals read as the text lays them, as the card says. -/
import Derived.Test.YtgnhpjlfdkpaiaaDoorFr
import Derived.Deep.RegionHeld3
import Derived.Test.YtgnhpjlfdkpaiaaDoorFl
import Derived.Test.YtgnhpjlfdkpaiaaDoorFm
import Derived.Test.YtgnhpjlfdkpaiaaDoorTwT
import Derived.Test.YtgnhpjlfdkpaiaaDoorTie
import Derived.Test.YtgnhpjlfdkpaiaaDoorCards
import Derived.SevenTiedAt
import Derived.OpenVars
import Derived.ChangeVars
import Derived.Carry
import Derived.Lib.SmallJoins
namespace Go.Proofs.YtgnhpjlfdkpaiaaDoor.fnExactSpread
open Go.ChangeShapes Go.WideShapes Go.ChangeAt Go.WideMaps Go.WideElems Go.RowKit
set_option linter.unusedVariables false
set_option linter.unusedSimpArgs false

set_option maxRecDepth 20000 in
set_option maxHeartbeats 4000000 in
theorem walk (fa : Option Addr) (flen fcap : Nat) (fc : Nat → C3) (fd fu : Int) (a1 : Int) (a2 : Int) (a3 : Int) (a4 : Int) (pa : Option Addr) (pn pcap : Nat) (px py : Nat → Int) (w : World) (hfl : flen ≤ maxLen) (hfc : ∀ j, (fc j).code.size ≤ maxLen) (hfr : CR w fa flen fc) (hpn : pn ≤ maxLen) (hpr : PR w pa pn px py) (hpx : ∀ j, -9223372036854775808 ≤ px j ∧ px j ≤ 9223372036854775807) (hp0 : ∀ j, pn ≤ j → px j = 0 ∧ py j = 0) (hE : EL w) :
    Calls Tryd.prog 12 #[.agg #[.slice fa flen fcap, .int .i64 fd, .int .i64 fu], .int .i64 a1, .int .i64 a2, .int .i64 a3, .int .i64 a4, .slice pa pn pcap] w fun e w' => e = .returned (.bool true) ∧ Below w.heap.size w w' := by
  have HR : Hid (CR w fa flen fc) := hfr
  have HPR : Hid (PR w pa pn px py) := hpr
  have hl2 := size_small hfl
  have hpl := size_small hpn
  have hc2 : Hid (∀ j, ((fc j).code.size : Int) ≤ 9223372036854775807) := fun j => size_small (hfc j)
  have HC : Hid (∀ j, (fc j).code.size ≤ maxLen) := hfc
  have HE : Hid (EL w) := hE
  have h9 := hE.nine
  have HPX : Hid ((∀ j, -9223372036854775808 ≤ px j ∧ px j ≤ 9223372036854775807) ∧ ∀ j, pn ≤ j → px j = 0 ∧ py j = 0) := ⟨hpx, hp0⟩
  have HT0 : Hid (TS w fa flen fcap fc fd fu pa pn px py (w.alloc (.cells #[.slice fa flen fcap, .int .i64 fd, .int .i64 fu] 59 (0, 0)))) := ⟨CB.new _ _, hfr.alloc _, hpr.alloc _, (Below.refl _ _).alloc (Nat.le_refl _) _⟩
  clear hfr hfc hE hpr hpx hp0
  go_enter Tryd.func12, Tryd.ntmps12
  go_upto_region 8 with (first
    | (go_at_call 29; refine (szFrame_any _ _ _ fc _ _ _ hl2 hc2.out HT0.out.cr).mono ?_; rintro e w1 ⟨v, rfl, hv, b1⟩; have HT1 : Hid (TS w fa flen fcap fc fd fu pa pn px py w1) := HT0.out.below b1; clear b1; rcases hv with rfl | ⟨hv, hv2, hb⟩)
    | (go_at_call 51; refine (szPeriodS_any _ _ _ _ _ hv hv2 hpl).mono ?_; rintro e w2 ⟨v2, rfl, hw, ew⟩; replace ew := ew.symm; subst ew; rcases hw with rfl | ⟨hw, hw2, hnn⟩))
  · go_returns
    exact ⟨rfl, HT1.out.bl⟩
  · go_returns
    exact ⟨rfl, HT1.out.bl⟩
  obtain ⟨M, hM⟩ : ∃ M, spN flen fc fd fu a1 a2 a3 a4 pn px py = M := ⟨_, rfl⟩
  obtain ⟨E, hE⟩ : ∃ E, spE a2 a3 a4 py (Sh.shV a1 pn (dW px py)) = E := ⟨_, rfl⟩
  have hM2 : M ≤ 200 := by
    rw [← hM]
    by_cases h : SpI flen fc fd fu a1 a2 a3 a4 pn px py
    · rw [spN_t h]; exact h.2.1.2.1
    · rw [spN_f h]; omega
  have hM1 : (M : Int) ≤ 1048576 := by omega
  have HEN : Hid (∀ j, j < M → ((E j).n : Int) ≤ 1048576) := fun j hj => by rw [← hE]; show ((2 : Nat) : Int) ≤ 1048576; omega
  have HSP : Hid (∀ (fa' : Option Addr) (cp : Nat) (la : Option Addr) (lc : Nat) (w' : World), CR w' fa' flen fc → PR w' la pn px py → Calls Tryd.prog 27 #[.agg #[.slice fa' flen cp, .int .i64 fd, .int .i64 fu], .int .i64 a1, .int .i64 a2, .int .i64 a3, .int .i64 a4, .slice la pn lc] w' (SpQ M E w')) := fun fa' cp la lc w' h1 h2 => hM ▸ hE ▸ specSpread_any fa' flen cp fc fd fu a1 a2 a3 a4 la pn lc px py w' hb HC.out h1 hnn h2 HPX.out.1 HPX.out.2
  have HIM : Hid (∀ (fa' : Option Addr) (cp : Nat) (la : Option Addr) (lc : Nat) (w' : World), CR w' fa' flen fc → EL w' → PR w' la pn px py → Calls Tryd.prog 26 #[.agg #[.slice fa' flen cp, .int .i64 fd, .int .i64 fu], .int .i64 a1, .int .i64 a2, .int .i64 a3, .int .i64 a4, .slice la pn lc] w' (SpP M E w')) := fun fa' cp la lc w' h1 h3 h2 => hM ▸ hE ▸ implSpread_any fa' flen cp fc fd fu a1 a2 a3 a4 la pn lc px py w' hb HC.out h1 h3 hnn h2
  clear hM hE
  have af0 : w1.cell? ⟨w.heap.size, 0, none⟩ = some (.slice fa flen fcap) := (HT1.out.xf.cell 0).trans rfl
  have af1 : w1.cell? ⟨w.heap.size, 1, none⟩ = some (.int .i64 fd) := (HT1.out.xf.cell 1).trans rfl
  have af2 : w1.cell? ⟨w.heap.size, 2, none⟩ = some (.int .i64 fu) := (HT1.out.xf.cell 2).trans rfl
  have tok1 : True := trivial
  have tok2 : True := trivial
  go_wp2_with (first
    | (go_at_call 31; clear tok1; refine (toFrame_any _ _ _ fc _ _ _ hb HT1.out.cr).mono ?_; rintro e w3 ⟨ba, rfl, _, i3, b3⟩; have HT3 : Hid (TS w fa flen fcap fc fd fu pa pn px py w3) := HT1.out.below b3; have HI3 : Hid (CR w3 (some ⟨ba, 0, none⟩) flen fc) := i3; clear i3 b3 af0 af1 af2)
    | (go_at_call 52; clear tok2; refine (toPeriodS_any _ _ _ px py _ hnn HT3.out.pr).mono ?_; rintro e w4 ⟨rfl, ⟨i4, _⟩, b4⟩; have HT4 : Hid (TS w fa flen fcap fc fd fu pa pn px py w4) := HT3.out.below b4; have HI4 : Hid (CR w4 (some ⟨ba, 0, none⟩) flen fc ∧ PR w4 (some ⟨w3.heap.size, 0, none⟩) pn px py) := ⟨HI3.out.below b4, i4⟩; clear i4 b4)
    | (go_at_call 27; refine (HSP.out _ _ _ _ _ HI4.out.1 HI4.out.2).mono ?_; rintro e w5 ⟨oa, oc, rfl, o5, b5⟩; have HT5 : Hid (TS w fa flen fcap fc fd fu pa pn px py w5) := HT4.out.below b5; have HO5 : Hid (Loc w5.heap.size (fun W => ER W oa M E) w5) := o5.loc; have bf0 : w5.cell? ⟨w.heap.size, 0, none⟩ = some (.slice fa flen fcap) := (HT5.out.xf.cell 0).trans rfl; have bf1 : w5.cell? ⟨w.heap.size, 1, none⟩ = some (.int .i64 fd) := (HT5.out.xf.cell 1).trans rfl; have bf2 : w5.cell? ⟨w.heap.size, 2, none⟩ = some (.int .i64 fu) := (HT5.out.xf.cell 2).trans rfl; clear o5 b5)
    | (go_at_call 31; refine (toFrame_cells _ _ _ fc _ _ _ hb HT5.out.cr).mono ?_; rintro e w6 ⟨b9, rfl, hb9, i6, ⟨cs9, C9, s9⟩, b6⟩; have HT6 : Hid (TS w fa flen fcap fc fd fu pa pn px py w6) := HT5.out.below b6; have HO6 : Hid (Loc w5.heap.size (fun W => ER W oa M E) w6) := HO5.out.below b6; have HI6 : Hid (CR w6 (some ⟨b9, 0, none⟩) flen fc) := i6; have HK6 : Hid (CB w6 b9 cs9 182) := C9; have HS9 : Hid (cs9.size = flen * 3) := s9; have hs9 := C9.lt; clear i6 C9 s9 b6 bf0 bf1 bf2)
    | (go_at_call 52; refine (toPeriodS_any _ _ _ px py _ hnn (HT6.out.alloc _).pr).mono ?_; rintro e w7 ⟨rfl, ⟨i7, cs5, C5, s5⟩, b7⟩; have HT7 : Hid (TS w fa flen fcap fc fd fu pa pn px py w7) := (HT6.out.alloc _).below b7; have HO7 : Hid (Loc w5.heap.size (fun W => ER W oa M E) w7) := (HO6.out.below ((Below.refl _ _).alloc (Nat.le_refl _) _)).below b7; have HI7 : Hid (CR w7 (some ⟨b9, 0, none⟩) flen fc) := (HI6.out.alloc _).below b7; have HK7 : Hid (CB w7 b9 cs9 182) := (HK6.out.alloc _).below b7 (HK6.out.alloc _).lt; have HX7 : Hid (CB w7 w6.heap.size #[.slice (some ⟨b9, 0, none⟩) flen flen, .int .i64 fd, .int .i64 fu] 26) := (CB.new _ _).below b7 (by simp); have HJ7 : Hid (PR w7 (some ⟨w6.heap.size + 1, 0, none⟩) pn px py ∧ CB w7 (w6.heap.size + 1) cs5 54 ∧ cs5.size = pn * 2) := (by simp at i7 C5; exact ⟨i7, C5, s5⟩); have hs7 : w6.heap.size + 1 < w7.heap.size := HJ7.out.2.1.lt; have m0 : w7.cell? ⟨w6.heap.size, 0, none⟩ = some (.slice (some ⟨b9, 0, none⟩) flen flen) := (HX7.out.cell 0).trans rfl; have m1 : w7.cell? ⟨w6.heap.size, 1, none⟩ = some (.int .i64 fd) := (HX7.out.cell 1).trans rfl; have m2 : w7.cell? ⟨w6.heap.size, 2, none⟩ = some (.int .i64 fu) := (HX7.out.cell 2).trans rfl; clear i7 C5 s5 b7)
    | (go_at_call 26; refine (HIM.out _ _ _ _ _ HI7.out (HE.out.below HT7.out.bl h9) HJ7.out.1).mono ?_; rintro e w8 ⟨ga, gc, rfl, o8, b8⟩; have HT8 : Hid (TS w fa flen fcap fc fd fu pa pn px py w8) := HT7.out.below b8; have hs8 := b8.size; have HU8 : Hid (US fc flen fd fu pn px py w6.heap.size b9 (w6.heap.size + 1) cs9 cs5 M E w5.heap.size oa oc w7.heap.size w8.heap.size ga gc w8) := ⟨HX7.out.below b8 HX7.out.lt, HI7.out.below b8, HK7.out.below b8 HK7.out.lt, HJ7.out.1.below b8, HJ7.out.2.1.below b8 HJ7.out.2.1.lt, HO7.out.below b8, o8⟩; have HS5 : Hid (cs5.size = pn * 2) := HJ7.out.2.2; clear m0 m1 m2 o8 b8)
    | (go_at_call 53; refine (eqEntryS_same _ _ _ _ _ E _ hM1 HEN.out HU8.out.g.row HU8.out.o.get).mono ?_; rintro e w9 ⟨rfl, b9'⟩; have HT9 : Hid (TS w fa flen fcap fc fd fu pa pn px py w9) := HT8.out.below b9'; have HU9 : Hid (US fc flen fd fu pn px py w6.heap.size b9 (w6.heap.size + 1) cs9 cs5 M E w5.heap.size oa oc w7.heap.size w8.heap.size ga gc w9) := HU8.out.below b9'; clear b9'))
  have HPO : Hid (w.heap.size + 1 ≤ w5.heap.size ∧ w5.heap.size ≤ b9 ∧ b9 < w6.heap.size ∧ w6.heap.size + 1 < w7.heap.size ∧ w7.heap.size ≤ w8.heap.size) := ⟨HT5.out.xf.lt, hb9, hs9, hs7, hs8⟩
  obtain ⟨p9, hp9⟩ : ∃ p9, w6.heap.size = p9 := ⟨_, rfl⟩
  obtain ⟨glo, hglo⟩ : ∃ glo, w7.heap.size = glo := ⟨_, rfl⟩
  obtain ⟨ghi, hghi⟩ : ∃ ghi, w8.heap.size = ghi := ⟨_, rfl⟩
  obtain ⟨q, hq⟩ : ∃ q, w5.heap.size = q := ⟨_, rfl⟩
  rw [hp9, hglo, hghi, hq] at HPO HU9
  obtain ⟨b5, hb5⟩ : ∃ b5, p9 + 1 = b5 := ⟨_, rfl⟩
  rw [hb5] at HPO HU9
  rw [hp9, hb5]
  have HB5 : Hid (p9 + 1 = b5) := hb5
  clear HU8 HT8 HT7 HT6 HO6 HO7 HI6 HI7 HK6 HK7 HX7 HJ7 HO5 HT5 HT4 HT3 HI3 HI4 hp9 hglo hghi hq hb9 hs9 hs7 hs8 hb5
  have t9 : TS w fa flen fcap fc fd fu pa pn px py w9.drew := HT9.out.drew
  have u9 : US fc flen fd fu pn px py p9 b9 b5 cs9 cs5 M E q oa oc glo ghi ga gc w9.drew := HU9.out.drew
  have hf0 : w9.cell? ⟨w.heap.size, 0, none⟩ = some (.slice fa flen fcap) := (HT9.out.xf.cell 0).trans rfl
  have hf1 : w9.cell? ⟨w.heap.size, 1, none⟩ = some (.int .i64 fd) := (HT9.out.xf.cell 1).trans rfl
  have hf2 : w9.cell? ⟨w.heap.size, 2, none⟩ = some (.int .i64 fu) := (HT9.out.xf.cell 2).trans rfl
  have hp0 : w9.cell? ⟨p9, 0, none⟩ = some (.slice (some ⟨b9, 0, none⟩) flen flen) := (HU9.out.x9.cell 0).trans rfl
  have hp1 : w9.cell? ⟨p9, 1, none⟩ = some (.int .i64 fd) := (HU9.out.x9.cell 1).trans rfl
  have hp2 : w9.cell? ⟨p9, 2, none⟩ = some (.int .i64 fu) := (HU9.out.x9.cell 2).trans rfl
  go_region_held3 (fun w' => w'.cell? ⟨w.heap.size, 0, none⟩ = some (.slice fa flen fcap) ∧ w'.cell? ⟨w.heap.size, 1, none⟩ = some (.int .i64 fd) ∧ w'.cell? ⟨w.heap.size, 2, none⟩ = some (.int .i64 fu) ∧ w'.cell? ⟨p9, 0, none⟩ = some (.slice (some ⟨b9, 0, none⟩) flen flen) ∧ w'.cell? ⟨p9, 1, none⟩ = some (.int .i64 fd) ∧ w'.cell? ⟨p9, 2, none⟩ = some (.int .i64 fu) ∧ TS w fa flen fcap fc fd fu pa pn px py w' ∧ US fc flen fd fu pn px py p9 b9 b5 cs9 cs5 M E q oa oc glo ghi ga gc w')
    (refine ⟨?_, ?_, ?_, ?_, ?_, ?_, ?_, ?_⟩ <;> first | assumption | (simp [*]; done))
    (first
      | (go_at_call 31; refine (toFrame_any _ _ _ fc _ _ _ hb (TS.cr (w := w) (fcap := fcap) (fd := fd) (fu := fu) (pa := pa) (pn := pn) (px := px) (py := py) (by assumption))).mono ?_; rintro e w10 ⟨bc, rfl, _, i10, b10'⟩; have t10 : TS w fa flen fcap fc fd fu pa pn px py w10 := TS.below (by assumption) b10'; have u10 : US fc flen fd fu pn px py p9 b9 b5 cs9 cs5 M E q oa oc glo ghi ga gc w10 := US.below (by assumption) b10'; have if0 : w10.cell? ⟨w.heap.size, 0, none⟩ = some (.slice fa flen fcap) := (t10.xf.cell 0).trans rfl; have if1 : w10.cell? ⟨w.heap.size, 1, none⟩ = some (.int .i64 fd) := (t10.xf.cell 1).trans rfl; have if2 : w10.cell? ⟨w.heap.size, 2, none⟩ = some (.int .i64 fu) := (t10.xf.cell 2).trans rfl; have ip0 : w10.cell? ⟨p9, 0, none⟩ = some (.slice (some ⟨b9, 0, none⟩) flen flen) := (u10.x9.cell 0).trans rfl; have ip1 : w10.cell? ⟨p9, 1, none⟩ = some (.int .i64 fd) := (u10.x9.cell 1).trans rfl; have ip2 : w10.cell? ⟨p9, 2, none⟩ = some (.int .i64 fu) := (u10.x9.cell 2).trans rfl)
      | (go_at_call 33; refine (eqFrame_same _ _ _ _ _ fc _ _ _ hb (US.c9 (fd := fd) (fu := fu) (pn := pn) (px := px) (py := py) (p9 := p9) (b5 := b5) (cs9 := cs9) (cs5 := cs5) (M := M) (E := E) (q := q) (oa := oa) (oc := oc) (glo := glo) (ghi := ghi) (ga := ga) (gc := gc) (by assumption)) (by assumption)).mono ?_; rintro e w11 ⟨rfl, b11⟩; have t11 : TS w fa flen fcap fc fd fu pa pn px py w11 := TS.below (by assumption) b11; have u11 : US fc flen fd fu pn px py p9 b9 b5 cs9 cs5 M E q oa oc glo ghi ga gc w11 := US.below (by assumption) b11; have jf0 : w11.cell? ⟨w.heap.size, 0, none⟩ = some (.slice fa flen fcap) := (t11.xf.cell 0).trans rfl; have jf1 : w11.cell? ⟨w.heap.size, 1, none⟩ = some (.int .i64 fd) := (t11.xf.cell 1).trans rfl; have jf2 : w11.cell? ⟨w.heap.size, 2, none⟩ = some (.int .i64 fu) := (t11.xf.cell 2).trans rfl; have jp0 : w11.cell? ⟨p9, 0, none⟩ = some (.slice (some ⟨b9, 0, none⟩) flen flen) := (u11.x9.cell 0).trans rfl; have jp1 : w11.cell? ⟨p9, 1, none⟩ = some (.int .i64 fd) := (u11.x9.cell 1).trans rfl; have jp2 : w11.cell? ⟨p9, 2, none⟩ = some (.int .i64 fu) := (u11.x9.cell 2).trans rfl))
  have HT11 : Hid (TS w fa flen fcap fc fd fu pa pn px py w11) := t11
  have HU11 : Hid (US fc flen fd fu pn px py p9 b9 b5 cs9 cs5 M E q oa oc glo ghi ga gc w11) := u11
  have HBx : Hid (True) := trivial
  clear t9 u9 t10 u10 t11 u11 i10 b10' b11 hf0 hf1 hf2 hp0 hp1 hp2 if0 if1 if2 ip0 ip1 ip2 jf0 jf1 jf2
  have tok3 : True := trivial
  have tok4 : True := trivial
  obtain ⟨KK, hKK⟩ : ∃ KK, kE 1 E M = KK := ⟨_, rfl⟩
  have hk1 := kE_bound (k := 1) (es := E) (n := M) (by omega) HEN.out M (Nat.le_refl _)
  rw [hKK] at hk1
  have hk2 := hk1.1
  have hk3 := hk1.2
  have HKE : Hid (kE 1 E M = KK) := hKK
  clear hk1 hKK
  go_wp2_with (first
    | (go_at_call 52; clear tok3; refine (toPeriodS_any _ _ _ px py _ hnn HT11.out.pr).mono ?_; rintro e w12 ⟨rfl, ⟨i12, _⟩, b12⟩; have HT12 : Hid (TS w fa flen fcap fc fd fu pa pn px py w12) := HT11.out.below b12; have HU12 : Hid (US fc flen fd fu pn px py p9 b9 b5 cs9 cs5 M E q oa oc glo ghi ga gc w12) := HU11.out.below b12; have HI12 : Hid (PR w12 (some ⟨w11.heap.size, 0, none⟩) pn px py) := i12; clear i12 b12)
    | (go_at_call 54; refine (eqPeriodS_same _ _ _ _ _ px py _ hnn HU12.out.p5 HI12.out).mono ?_; rintro e w13 ⟨rfl, b13⟩; have HT13 : Hid (TS w fa flen fcap fc fd fu pa pn px py w13) := HT12.out.below b13; have HU13 : Hid (US fc flen fd fu pn px py p9 b9 b5 cs9 cs5 M E q oa oc glo ghi ga gc w13) := HU12.out.below b13; clear jp0 jp1 jp2; have kp0 : w13.cell? ⟨p9, 0, none⟩ = some (.slice (some ⟨b9, 0, none⟩) flen flen) := (HU13.out.x9.cell 0).trans rfl; have kp1 : w13.cell? ⟨p9, 1, none⟩ = some (.int .i64 fd) := (HU13.out.x9.cell 1).trans rfl; have kp2 : w13.cell? ⟨p9, 2, none⟩ = some (.int .i64 fu) := (HU13.out.x9.cell 2).trans rfl; clear b13)
    | (go_at_call 42; refine (markFrame_is _ _ _ _ _ cs9 _ hb HU13.out.k9 HS9.out).mono ?_; rintro e w14 ⟨rfl, kr⟩; have HT14 : Hid (TS w fa flen fcap fc fd fu pa pn px py w14) := HT13.out.kr kr (by have := HPO.out; have := HB5.out; omega) HR.out HPR.out; have HK14 : Hid (CB w14 b5 cs5 54) := HU13.out.k5.kr3 kr (by have := HPO.out; have := HB5.out; omega); have HO14 : Hid (Loc q (fun W => ER W oa M E) w14) := HU13.out.o.kr kr (by have := HPO.out; have := HB5.out; omega); have HG14 : Hid (NewE glo ghi w14 ga M E 32 56) := HU13.out.g.kr kr (by have := HPO.out; have := HB5.out; omega); clear kr)
    | (go_at_call 55; refine (markPeriodS_is _ _ _ _ cs5 _ hnn (by omega) (by omega) HK14.out HS5.out).mono ?_; rintro e w15 ⟨rfl, kr⟩; have HT15 : Hid (TS w fa flen fcap fc fd fu pa pn px py w15) := HT14.out.kr kr (by have := HPO.out; have := HB5.out; omega) HR.out HPR.out; have HO15 : Hid (Loc q (fun W => ER W oa M E) w15) := HO14.out.kr kr (by have := HPO.out; have := HB5.out; omega); have HG15 : Hid (NewE glo ghi w15 ga M E 32 56) := HG14.out.kr kr (by have := HPO.out; have := HB5.out; omega); clear kr)
    | (go_at_call 53; clear tok4; refine (eqEntryS_same _ _ _ _ _ E _ hM1 HEN.out HG15.out.row HO15.out.get).mono ?_; rintro e w16 ⟨rfl, b16⟩; have HT16 : Hid (TS w fa flen fcap fc fd fu pa pn px py w16) := HT15.out.below b16; have HO16 : Hid (Loc q (fun W => ER W oa M E) w16) := HO15.out.below b16; have HG16 : Hid (NewE glo ghi w16 ga M E 32 56) := HG15.out.below b16; clear b16)
    | (go_at_call 56; go_loud (refine (markEntryS_new _ _ _ E _ _ _ _ hM1 HEN.out (by omega) (by omega) HG16.out).mono ?_; rintro e w17 ⟨rfl, g17, kr⟩; rw [HKE.out]; have HT17 : Hid (TS w fa flen fcap fc fd fu pa pn px py w17) := HT16.out.kr kr (by have := HPO.out; have := HB5.out; omega) HR.out HPR.out; have HO17 : Hid (Loc q (fun W => ER W oa M E) w17) := HO16.out.kr kr (by have := HPO.out; have := HB5.out; omega); have HG17 : Hid (NewE glo ghi w17 ga M (mkE 1 E) 32 56) := g17; clear kr g17))
    | (go_at_call 57; refine (heldEntryS_is _ _ _ E _ _ hM1 HEN.out (by omega) (by omega) HG17.out.row).mono ?_; rintro e w18 ⟨rfl, b18⟩; rw [HKE.out]; have HT18 : Hid (TS w fa flen fcap fc fd fu pa pn px py w18) := HT17.out.below b18; have HO18 : Hid (Loc q (fun W => ER W oa M E) w18) := HO17.out.below b18; have HG18 : Hid (NewE glo ghi w18 ga M (mkE 1 E) 32 56) := HG17.out.below b18; have lf0 : w18.cell? ⟨w.heap.size, 0, none⟩ = some (.slice fa flen fcap) := (HT18.out.xf.cell 0).trans rfl; have lf1 : w18.cell? ⟨w.heap.size, 1, none⟩ = some (.int .i64 fd) := (HT18.out.xf.cell 1).trans rfl; have lf2 : w18.cell? ⟨w.heap.size, 2, none⟩ = some (.int .i64 fu) := (HT18.out.xf.cell 2).trans rfl; clear b18)
    | (go_at_call 31; refine (toFrame_any _ _ _ fc _ _ _ hb HT18.out.cr).mono ?_; rintro e w19 ⟨bx, rfl, _, i19, b19⟩; have HT19 : Hid (TS w fa flen fcap fc fd fu pa pn px py w19) := HT18.out.below b19; have HV19 : Hid (CR w19 (some ⟨bx, 0, none⟩) flen fc ∧ Loc q (fun W => ER W oa M E) w19 ∧ NewE glo ghi w19 ga M (mkE 1 E) 32 56) := ⟨i19, HO18.out.below b19, HG18.out.below b19⟩; clear i19 b19 lf0 lf1 lf2)
    | (go_at_call 52; refine (toPeriodS_any _ _ _ px py _ hnn HT19.out.pr).mono ?_; rintro e w20 ⟨rfl, ⟨i20, _⟩, b20⟩; have HT20 : Hid (TS w fa flen fcap fc fd fu pa pn px py w20) := HT19.out.below b20; have HV20 : Hid (CR w20 (some ⟨bx, 0, none⟩) flen fc ∧ PR w20 (some ⟨w19.heap.size, 0, none⟩) pn px py ∧ Loc q (fun W => ER W oa M E) w20 ∧ NewE glo ghi w20 ga M (mkE 1 E) 32 56) := ⟨HV19.out.1.below b20, i20, HV19.out.2.1.below b20, HV19.out.2.2.below b20⟩; clear i20 b20)
    | (go_at_call 26; refine (HIM.out _ _ _ _ _ HV20.out.1 (HE.out.below HT20.out.bl h9) HV20.out.2.1).mono ?_; rintro e w21 ⟨ha, hcp, rfl, o21, b21⟩; have HT21 : Hid (TS w fa flen fcap fc fd fu pa pn px py w21) := HT20.out.below b21; have HV21 : Hid (ER w21 ha M E ∧ Loc q (fun W => ER W oa M E) w21 ∧ NewE glo ghi w21 ga M (mkE 1 E) 32 56) := ⟨o21.row, HV20.out.2.2.1.below b21, HV20.out.2.2.2.below b21⟩; clear o21 b21)
    | (go_at_call 53; refine (eqEntryS_same _ _ _ _ _ E _ hM1 HEN.out HV21.out.1 HV21.out.2.1.get).mono ?_; rintro e w22 ⟨rfl, b22⟩; have HT22 : Hid (TS w fa flen fcap fc fd fu pa pn px py w22) := HT21.out.below b22; have HG22 : Hid (NewE glo ghi w22 ga M (mkE 1 E) 32 56) := HV21.out.2.2.below b22; clear b22)
    | (go_at_call 57; refine (heldEntryS_is _ _ _ E _ _ hM1 HEN.out (by omega) (by omega) HG22.out.row).mono ?_; rintro e w23 ⟨rfl, b23⟩; rw [HKE.out]; have HB23 : Hid (Below w.heap.size w w23) := bel_on HT22.out.bl b23; clear b23))
  go_returns
  exact ⟨rfl, HB23.out⟩

set_option maxRecDepth 100000 in
theorem lifted (os : Os) (started : os.Started) (H : Type) (enc : TypeId × Value → H) :
    ReturnsInHanded {} Tryd.checked os 12 .any (fun w args => (Rows.fnExactSpreadSpec.pre enc Tryd.prog Tryd.f12 [] false w args ∧ laidMetH Tryd.prog laid7 w) ∧ sizedMet enc Tryd.prog Tryd.f12 (OpenSpec.ofChange Rows.fnExactSpreadSpec) false w args)
      (Rows.fnExactSpreadSpec.post enc Tryd.prog Tryd.f12 false true false false) := by
  refine returnsInHanded_of_change_and (C := Tryd.checked) (X := fun w _ => laidMetH Tryd.prog laid7 w) (fun _ _ _ hh h => h.of_heap hh) own started (by kernel_rfl) Tryd.func12
    (ChangeSpec.witness_shaped (enc := enc) (C := Tryd.checked) (os := os) (X := fun w _ => laidMetH Tryd.prog laid7 w) false (World.doorLaid Tryd.prog 400 os) #[.agg #[.slice none 0 0, .int .i64 0, .int .i64 0], .int .i64 0, .int .i64 0, .int .i64 0, .int .i64 0, .slice none 0 0] 8 rfl (World.shaped_of_RefB (by kernel_rfl) (by kernel_rfl)) (by kernel_rfl) (by kernel_rfl) (by kernel_rfl) (door_met7 os _)) ?_
  intro W base args ds gs before hval0 hW _ _ hL _
  have hval : ∀ (j : Nat) t v, Tryd.f12.params[j]? = some t → args[j]? = some v → Value.okWide Tryd.prog W .any base t v := hval0
  have hW' := hW
  obtain ⟨p, q, hA0, hV, rfl, hfz, hnd⟩ := hW
  have hA : DataW.TrodAll enc Tryd.prog W 0 (fun _ => true) true Tryd.f12.params.toList args.toList ds p := hA0
  rw [Tryd.params12] at hA hval
  obtain ⟨v0, vs0, d0, ds0, p0, q0, hargs, rfl, rfl, h0, r0⟩ := trodAll_cons hA
  obtain ⟨v1, vs1, d1, ds1, p1, q1, rfl, rfl, rfl, h1, r1⟩ := trodAll_cons r0
  obtain ⟨v2, vs2, d2, ds2, p2, q2, rfl, rfl, rfl, h2, r2⟩ := trodAll_cons r1
  obtain ⟨v3, vs3, d3, ds3, p3, q3, rfl, rfl, rfl, h3, r3⟩ := trodAll_cons r2
  obtain ⟨v4, vs4, d4, ds4, p4, q4, rfl, rfl, rfl, h4, r4⟩ := trodAll_cons r3
  obtain ⟨v5, vs5, d5, ds5, p5, q5, rfl, rfl, rfl, h5, r5⟩ := trodAll_cons r4
  obtain ⟨rfl, rfl, rfl⟩ := trodAll_nil r5
  obtain rfl : args = #[v0, v1, v2, v3, v4, v5] := by cases args; simp_all
  have hV1 := hV
  obtain ⟨x1, x2, x3, x4, x5, x6, x7, rfl⟩ := seven (trodVars_len hV)
  have k0 := h0
  have lt0 : ∀ x ∈ p0, x.block < W.heap.size := by obtain ⟨m, hm⟩ := k0; exact DataW.trod_lt m _ _ _ hm
  have k1 := h1
  have lt1 : ∀ x ∈ p1, x.block < W.heap.size := by obtain ⟨m, hm⟩ := k1; exact DataW.trod_lt m _ _ _ hm
  have k2 := h2
  have lt2 : ∀ x ∈ p2, x.block < W.heap.size := by obtain ⟨m, hm⟩ := k2; exact DataW.trod_lt m _ _ _ hm
  have k3 := h3
  have lt3 : ∀ x ∈ p3, x.block < W.heap.size := by obtain ⟨m, hm⟩ := k3; exact DataW.trod_lt m _ _ _ hm
  have k4 := h4
  have lt4 : ∀ x ∈ p4, x.block < W.heap.size := by obtain ⟨m, hm⟩ := k4; exact DataW.trod_lt m _ _ _ hm
  have k5 := h5
  have lt5 : ∀ x ∈ p5, x.block < W.heap.size := by obtain ⟨m, hm⟩ := k5; exact DataW.trod_lt m _ _ _ hm
  obtain ⟨fx0, fx1, fx2, fy0, fy1, fy2, fnn, rfl, rfl, rfl, fg0, fg1, fg2⟩ := Go.Joins.open_agg3 Tryd.underlying59 (by kernel_rfl) (by kernel_rfl) (hval 0 59 v0 rfl rfl) h0
  obtain ⟨fd, fe1, _, _⟩ := DataW.trod_int Tryd.underlying3 fg1
  obtain rfl : fx1 = .int .i64 fd := by simpa using fe1
  obtain ⟨fu, fe2, _, _⟩ := DataW.trod_int Tryd.underlying3 fg2
  obtain rfl : fx2 = .int .i64 fu := by simpa using fe2
  obtain ⟨fa, flen, fcap, rfl, fT⟩ := slice_of Tryd.underlying57 fg0
  obtain ⟨fc, hfl, hfc, hfr⟩ := curs_of Tryd.underlying57 Tryd.underlying181 (by kernel_rfl) ⟨rfl, rfl, rfl⟩ ⟨by kernel_rfl, by kernel_rfl, by kernel_rfl⟩ Tryd.underlying9 Tryd.underlying3 Tryd.underlying3 fT
  obtain ⟨a1, rfl, rfl, rfl, w1⟩ := open_int Tryd.underlying3 (hval 1 3 v1 rfl rfl) h1
  obtain ⟨a2, rfl, rfl, rfl, w2⟩ := open_int Tryd.underlying3 (hval 2 3 v2 rfl rfl) h2
  obtain ⟨a3, rfl, rfl, rfl, w3⟩ := open_int Tryd.underlying3 (hval 3 3 v3 rfl rfl) h3
  obtain ⟨a4, rfl, rfl, rfl, w4⟩ := open_int Tryd.underlying3 (hval 4 3 v4 rfl rfl) h4
  obtain ⟨pa, pn, pcap, rfl⟩ := okWide_slice Tryd.underlying87 (hval 5 87 v5 rfl rfl)
  obtain ⟨px, py, hpn, hpr, hpx, hp0⟩ := pairs_of Tryd.underlying87 Tryd.underlying146 (by kernel_rfl) rfl rfl (by kernel_rfl) (by kernel_rfl) Tryd.underlying3 Tryd.underlying3 h5
  clear hA0 hval0
  refine (walk fa flen fcap fc fd fu a1 a2 a3 a4 pa pn pcap px py W hfl hfc hfr hpn hpr hpx hp0 (of_laid7 hL)).mono fun e W' ⟨he, hg⟩ => ?_
  subst he
  exact ⟨_, rfl, _, _, _, [], _, _, hW', (trodAll_cons_mk (shut_bool Tryd.underlying4 _) trodAll_mk0), (trodAll_cons_mk (Below.trod laidOut (by kernel_rfl) (of_decide_eq_true (by kernel_rfl)) k0 hg lt0) (trodAll_cons_mk (Below.trod laidOut (by kernel_rfl) (of_decide_eq_true (by kernel_rfl)) k1 hg lt1) (trodAll_cons_mk (Below.trod laidOut (by kernel_rfl) (of_decide_eq_true (by kernel_rfl)) k2 hg lt2) (trodAll_cons_mk (Below.trod laidOut (by kernel_rfl) (of_decide_eq_true (by kernel_rfl)) k3 hg lt3) (trodAll_cons_mk (Below.trod laidOut (by kernel_rfl) (of_decide_eq_true (by kernel_rfl)) k4 hg lt4) (trodAll_cons_mk (Below.trod laidOut (by kernel_rfl) (of_decide_eq_true (by kernel_rfl)) k5 hg lt5) trodAll_mk0)))))), Below.trodVars laidOut hg (by kernel_rfl) hV1, hg.frame _, fun h => by cases h⟩

theorem row_holds : Rows.FnExactSpreadSaid :=
  OpenClaim.holds_of_wide 12 Tryd.f12 rfl rfl rfl rfl rfl rfl rfl ⟨rfl, rfl, rfl, rfl, rfl⟩ rfl rfl rfl rfl rfl (by kernel_rfl) Tryd.func12 (by kernel_rfl)
    (of_decide_eq_true (by kernel_rfl)) (by unfold Func.isWrapper; first | (rw [if_pos (by decide +kernel)]; kernel_rfl) | (rw [if_neg (by decide +kernel)]; exact ⟨rfl, rfl⟩))
    (fun os started H enc _ => lifted os started H enc)

end Go.Proofs.YtgnhpjlfdkpaiaaDoor.fnExactSpread

namespace Go.Proofs.YtgnhpjlfdkpaiaaDoor
open Go
theorem fnExactSpread_holds : Rows.FnExactSpreadCardSaid :=
  Claim7.holds_tied_plain_at .later [] [.sentinel, .sentinel, .sentinel, .sentinel, .sentinel, .sentinel, .sentinel] true (true, "ccd1ef061b523aabb51411168b790821f25efaf6af84088de9bcc3d19a071f20") false
    fnExactSpread.row_holds (fun _ h => by cases h) (by kernel_rfl) (fun _ h => by cases h) fnExactSpread_row_tie rfl ⟨rfl, rfl⟩ (by kernel_rfl) rfl
    (fun f fn hf hfn => by
      obtain rfl : f = 12 := Option.some.inj ((show Tryd.prog.funcNamed "loop.example/g00040/laws.FnExactSpread" = some 12 by kernel_rfl).symm.trans hf) |>.symm
      obtain rfl : fn = Tryd.f12 := (Option.some.inj (Tryd.func12.symm.trans hfn)).symm
      exact ⟨by kernel_rfl, fun j t ht => by
        rw [Tryd.params12] at ht
        have hm : t ∈ [59, 3, 3, 3, 3, 87] := by simpa using Array.mem_of_getElem? ht
        have hall : ([59, 3, 3, 3, 3, 87].all fun u => !Tryd.prog.wantsStandIn u) = true := by kernel_rfl
        exact (show Tryd.prog.wantsStandIn t = false by simpa using List.all_eq_true.1 hall t hm)⟩)
    (by kernel_rfl)
#print axioms fnExactSpread_holds
end Go.Proofs.YtgnhpjlfdkpaiaaDoor
