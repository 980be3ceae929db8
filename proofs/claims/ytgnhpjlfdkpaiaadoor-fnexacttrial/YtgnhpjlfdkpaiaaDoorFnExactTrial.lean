/- FnExactTrial: at every frame, ledger and number that the size tests let through, the program's Trial answers as the model's, leaves its arguments as they were and owns its answer's memory; the seven listed refusals start as the program's text lays them. -/
import Derived.Test.YtgnhpjlfdkpaiaaDoorFr
import Derived.Test.YtgnhpjlfdkpaiaaDoorFl
import Derived.Test.YtgnhpjlfdkpaiaaDoorFm
import Derived.Test.YtgnhpjlfdkpaiaaDoorLl
import Derived.Test.YtgnhpjlfdkpaiaaDoorB5
import Derived.Test.YtgnhpjlfdkpaiaaDoorTie
import Derived.Test.YtgnhpjlfdkpaiaaDoorCards
import Derived.SevenTiedAt
import Derived.OpenVars
import Derived.ChangeVars
import Derived.Carry
import Derived.Lib.SmallJoins
namespace Go.Proofs.YtgnhpjlfdkpaiaaDoor.fnExactTrial
open Go.ChangeShapes Go.WideShapes Go.ChangeAt Go.WideMaps Go.WideElems Go.RowKit
set_option linter.unusedVariables false
set_option linter.unusedSimpArgs false

set_option maxRecDepth 20000 in
set_option maxHeartbeats 4000000 in
theorem walk (fa : Option Addr) (flen fcap : Nat) (fc : Nat → C3) (fd fu : Int) (ad : Option Addr) (len cap : Nat) (es : Nat → E4) (hd : Int) (a2 : Int) (w : World) (hfl : flen ≤ maxLen) (hfc : ∀ j, (fc j).code.size ≤ maxLen) (hfr : CR w fa flen fc) (hl : len ≤ maxLen) (hm : ∀ j, (es j).text.size ≤ maxLen ∧ (es j).n ≤ maxLen) (hr : ER w ad len es) (hE : EL w) :
    Calls Tryd.prog 11 #[.agg #[.slice fa flen fcap, .int .i64 fd, .int .i64 fu], .agg #[.slice ad len cap, .int .i64 hd], .int .i64 a2] w fun e w' => e = .returned (.bool true) ∧ Below w.heap.size w w' := by
  have HR : Hid (CR w fa flen fc) := hfr
  have HLd : Hid (ER w ad len es) := hr
  have hl2 := size_small hfl
  have hll := size_small hl
  have hc2 : Hid (∀ j, ((fc j).code.size : Int) ≤ 9223372036854775807) := fun j => size_small (hfc j)
  have hm2 : Hid (∀ j, ((es j).text.size : Int) ≤ 9223372036854775807 ∧ ((es j).n : Int) ≤ 9223372036854775807) := fun j => ⟨size_small (hm j).1, size_small (hm j).2⟩
  have HC : Hid (∀ j, (fc j).code.size ≤ maxLen) := hfc
  have HE : Hid (EL w) := hE
  have h9 := hE.nine
  have HT0 : Hid (TB w fa flen fcap fc fd fu ad len cap es hd ((w.alloc (.cells #[.slice fa flen fcap, .int .i64 fd, .int .i64 fu] 59 (0, 0))).alloc (.cells #[.slice ad len cap, .int .i64 hd] 74 (0, 0)))) := ⟨(CB.new _ _).alloc _, CB.newAt (by simp) _ _, (hfr.alloc _).alloc _, hr.below (((Below.refl _ _).alloc (Nat.le_refl _) _).alloc (by simp) _), ((Below.refl _ _).alloc (Nat.le_refl _) _).alloc (by simp) _⟩
  clear hfr hfc hE hr hm
  go_enter Tryd.func11, Tryd.ntmps11
  go_wp2_with (first
    | (go_at_call 29; refine (szFrame_any _ _ _ fc _ _ _ hl2 hc2.out HT0.out.cr).mono ?_; rintro e w1 ⟨v, rfl, hv, b1⟩; have HT1 : Hid (TB w fa flen fcap fc fd fu ad len cap es hd w1) := HT0.out.below b1; have af0 : w1.cell? ⟨w.heap.size, 0, none⟩ = some (.slice fa flen fcap) := (HT1.out.xf.cell 0).trans rfl; have af1 : w1.cell? ⟨w.heap.size, 1, none⟩ = some (.int .i64 fd) := (HT1.out.xf.cell 1).trans rfl; have af2 : w1.cell? ⟨w.heap.size, 2, none⟩ = some (.int .i64 fu) := (HT1.out.xf.cell 2).trans rfl; have al0 : w1.cell? ⟨w.heap.size + 1, 0, none⟩ = some (.slice ad len cap) := (HT1.out.xl.cell 0).trans rfl; have al1 : w1.cell? ⟨w.heap.size + 1, 1, none⟩ = some (.int .i64 hd) := (HT1.out.xl.cell 1).trans rfl; clear b1; rcases hv with rfl | ⟨hv, hv2, hb⟩)
    | (go_at_call 38; refine (szLedger_any _ _ _ es _ _ _ hv hv2 hll hm2.out HT1.out.er).mono ?_; rintro e w2 ⟨v2, rfl, hw, b2⟩; have HT2 : Hid (TB w fa flen fcap fc fd fu ad len cap es hd w2) := HT1.out.below b2; clear af0 af1 af2 al0 al1; have af0 : w2.cell? ⟨w.heap.size, 0, none⟩ = some (.slice fa flen fcap) := (HT2.out.xf.cell 0).trans rfl; have af1 : w2.cell? ⟨w.heap.size, 1, none⟩ = some (.int .i64 fd) := (HT2.out.xf.cell 1).trans rfl; have af2 : w2.cell? ⟨w.heap.size, 2, none⟩ = some (.int .i64 fu) := (HT2.out.xf.cell 2).trans rfl; have al0 : w2.cell? ⟨w.heap.size + 1, 0, none⟩ = some (.slice ad len cap) := (HT2.out.xl.cell 0).trans rfl; have al1 : w2.cell? ⟨w.heap.size + 1, 1, none⟩ = some (.int .i64 hd) := (HT2.out.xl.cell 1).trans rfl; clear b2; rcases hw with rfl | ⟨hw, hw2, hnn, hnj⟩))
  · go_returns
    exact ⟨rfl, HT1.out.bl⟩
  · go_returns
    exact ⟨rfl, HT2.out.bl⟩
  have HNJ : Hid (∀ j, j < len → ((es j).n : Int) ≤ 1048576) := hnj
  obtain ⟨M, hM⟩ : ∃ M, M = if leB flen fc fd fu len es hd = true then flen else 0 := ⟨_, rfl⟩
  have hM1 : (M : Int) ≤ 1048576 := by rw [hM]; split <;> omega
  have HM : Hid (M = if leB flen fc fd fu len es hd = true then flen else 0) := hM
  obtain ⟨XS, hXS⟩ : ∃ XS, ivs (trL a2 len es M) = XS := ⟨_, rfl⟩
  have HZZ : Hid (∀ j, j < M → XS[j]? = some (.int .i64 (balV (j : Int) (-1) (-1) 0 a2 len es).2)) := fun j hj => hXS ▸ trL_get a2 len es M j hj
  have HSP : Hid (∀ (fa' : Option Addr) (cp : Nat) (la : Option Addr) (lc : Nat) (w' : World), CR w' fa' flen fc → ER w' la len es → Calls Tryd.prog 47 #[.agg #[.slice fa' flen cp, .int .i64 fd, .int .i64 fu], .agg #[.slice la len lc, .int .i64 hd], .int .i64 a2] w' fun e w'' => ∃ adv capv, e = .returned (.slice adv M capv) ∧ w''.ownsRow w'.heap.size 3 1 (.slice adv M capv) M XS ∧ Below w'.heap.size w' w'') := fun fa' cp la lc w' h1 h2 => hXS ▸ specTrial_any fa' flen cp fc fd fu la len lc es hd a2 w' hb HC.out h1 h2 (fun j => (hm2.out j).1) HNJ.out M HM.out
  have HIM : Hid (∀ (fa' : Option Addr) (cp : Nat) (la : Option Addr) (lc : Nat) (w' : World), CR w' fa' flen fc → EL w' → ER w' la len es → Calls Tryd.prog 21 #[.agg #[.slice fa' flen cp, .int .i64 fd, .int .i64 fu], .agg #[.slice la len lc, .int .i64 hd], .int .i64 a2] w' fun e w'' => ∃ adv capv, e = .returned (.slice adv M capv) ∧ w''.ownsRow w'.heap.size 3 1 (.slice adv M capv) M XS ∧ Below w'.heap.size w' w'') := fun fa' cp la lc w' h1 h2 h3 => hXS ▸ implTrial_any fa' flen cp fc fd fu la len lc es hd a2 w' hb HC.out h1 h2 h3 M HM.out
  clear hnj hM hXS HM
  have t2 : TB w fa flen fcap fc fd fu ad len cap es hd w2.drew := HT2.out.drew
  go_region_held3 (fun w' => w'.cell? ⟨w.heap.size, 0, none⟩ = some (.slice fa flen fcap) ∧ w'.cell? ⟨w.heap.size, 1, none⟩ = some (.int .i64 fd) ∧ w'.cell? ⟨w.heap.size, 2, none⟩ = some (.int .i64 fu) ∧ w'.cell? ⟨w.heap.size + 1, 0, none⟩ = some (.slice ad len cap) ∧ w'.cell? ⟨w.heap.size + 1, 1, none⟩ = some (.int .i64 hd) ∧ TB w fa flen fcap fc fd fu ad len cap es hd w')
    (refine ⟨?_, ?_, ?_, ?_, ?_, ?_⟩ <;> first | assumption | (simp [*]; done))
    (first
      | (go_at_call 31; refine (toFrame_any _ _ _ fc _ _ _ hb (TB.cr (w := w) (fcap := fcap) (fd := fd) (fu := fu) (ad := ad) (len := len) (cap := cap) (es := es) (hd := hd) (by assumption))).mono ?_; rintro e w3 ⟨ba, rfl, _, i3, b3⟩; have t3 : TB w fa flen fcap fc fd fu ad len cap es hd w3 := TB.below (by assumption) b3; have bf0 : w3.cell? ⟨w.heap.size, 0, none⟩ = some (.slice fa flen fcap) := (t3.xf.cell 0).trans rfl; have bf1 : w3.cell? ⟨w.heap.size, 1, none⟩ = some (.int .i64 fd) := (t3.xf.cell 1).trans rfl; have bf2 : w3.cell? ⟨w.heap.size, 2, none⟩ = some (.int .i64 fu) := (t3.xf.cell 2).trans rfl; have bl0 : w3.cell? ⟨w.heap.size + 1, 0, none⟩ = some (.slice ad len cap) := (t3.xl.cell 0).trans rfl; have bl1 : w3.cell? ⟨w.heap.size + 1, 1, none⟩ = some (.int .i64 hd) := (t3.xl.cell 1).trans rfl; try (have y3 : ER w3 (some ⟨be, 0, none⟩) len es := ER.below (by assumption) b3))
      | (go_at_call 40; refine (toLedger_any _ _ _ es _ _ hnn HNJ.out (TB.er (w := w) (fa := fa) (flen := flen) (fcap := fcap) (fc := fc) (fd := fd) (fu := fu) (cap := cap) (hd := hd) (by assumption))).mono ?_; rintro e w4 ⟨be, bl4, rfl, _, _, o4, b4⟩; have i4 := o4.row; clear o4; have t4 : TB w fa flen fcap fc fd fu ad len cap es hd w4 := TB.below (by assumption) b4; have cf0 : w4.cell? ⟨w.heap.size, 0, none⟩ = some (.slice fa flen fcap) := (t4.xf.cell 0).trans rfl; have cf1 : w4.cell? ⟨w.heap.size, 1, none⟩ = some (.int .i64 fd) := (t4.xf.cell 1).trans rfl; have cf2 : w4.cell? ⟨w.heap.size, 2, none⟩ = some (.int .i64 fu) := (t4.xf.cell 2).trans rfl; have cl0 : w4.cell? ⟨w.heap.size + 1, 0, none⟩ = some (.slice ad len cap) := (t4.xl.cell 0).trans rfl; have cl1 : w4.cell? ⟨w.heap.size + 1, 1, none⟩ = some (.int .i64 hd) := (t4.xl.cell 1).trans rfl; try (have y4 : CR w4 (some ⟨ba, 0, none⟩) flen fc := CR.below (by assumption) b4))
      | (go_at_call 47; refine (HSP.out _ _ _ _ _ (by assumption) (by assumption)).mono ?_; rintro e w5 ⟨ad0, c0, rfl, o5, b5⟩; have t5 : TB w fa flen fcap fc fd fu ad len cap es hd w5 := TB.below (by assumption) b5; have df0 : w5.cell? ⟨w.heap.size, 0, none⟩ = some (.slice fa flen fcap) := (t5.xf.cell 0).trans rfl; have df1 : w5.cell? ⟨w.heap.size, 1, none⟩ = some (.int .i64 fd) := (t5.xf.cell 1).trans rfl; have df2 : w5.cell? ⟨w.heap.size, 2, none⟩ = some (.int .i64 fu) := (t5.xf.cell 2).trans rfl; have dl0 : w5.cell? ⟨w.heap.size + 1, 0, none⟩ = some (.slice ad len cap) := (t5.xl.cell 0).trans rfl; have dl1 : w5.cell? ⟨w.heap.size + 1, 1, none⟩ = some (.int .i64 hd) := (t5.xl.cell 1).trans rfl))
  have HT5 : Hid (TB w fa flen fcap fc fd fu ad len cap es hd w5) := t5
  obtain ⟨bo, hbo⟩ : ∃ bo, w.heap.size ≤ bo ∧ w5.ownsRow bo 3 1 (.slice ad0 M c0) M XS := ⟨_, by first | exact (TB.bl (by assumption)).size | (show w.heap.size ≤ w4.heap.size; exact t4.bl.size) | (show w.heap.size ≤ w3.heap.size; exact t3.bl.size), o5⟩
  have HO5 : Hid (w5.ownsRow bo 3 1 (.slice ad0 M c0) M XS) := hbo.2
  have QO : Hid (∀ g, Value.ownBlock (.slice ad0 M c0) = some g → g < w5.heap.size) := fun g hg => (hbo.2.lt g hg).2
  have hw5 : w.heap.size + 2 ≤ w5.heap.size := by have := t5.xl.lt; omega
  clear t2 t3 t4 t5 i3 i4 b3 b4 b5 o5 hbo
  go_wp2_with (first
    | (go_at_call 31; refine (toFrame_cells _ _ _ fc _ _ _ hb HT5.out.cr).mono ?_; rintro e w6 ⟨b9, rfl, hb9, i6, ⟨cs9, C9, s9⟩, b6⟩; have HT6 : Hid (TB w fa flen fcap fc fd fu ad len cap es hd w6) := HT5.out.below b6; have HO6 : Hid (w6.ownsRow bo 3 1 (.slice ad0 M c0) M XS) := row_below HO5.out b6; have HI6 : Hid (CR w6 (some ⟨b9, 0, none⟩) flen fc) := i6; have HK6 : Hid (CB w6 b9 cs9 182) := C9; have HS9 : Hid (cs9.size = flen * 3) := s9; have hs6 := b6.size; have hs9 := C9.lt; have gf0 : (w6.alloc (.cells #[.slice (some ⟨b9, 0, none⟩) flen flen, .int .i64 fd, .int .i64 fu] 26 (0, 0))).cell? ⟨w.heap.size, 0, none⟩ = some (.slice fa flen fcap) := ((HT6.out.alloc _).xf.cell 0).trans rfl; have gf1 : (w6.alloc (.cells #[.slice (some ⟨b9, 0, none⟩) flen flen, .int .i64 fd, .int .i64 fu] 26 (0, 0))).cell? ⟨w.heap.size, 1, none⟩ = some (.int .i64 fd) := ((HT6.out.alloc _).xf.cell 1).trans rfl; have gf2 : (w6.alloc (.cells #[.slice (some ⟨b9, 0, none⟩) flen flen, .int .i64 fd, .int .i64 fu] 26 (0, 0))).cell? ⟨w.heap.size, 2, none⟩ = some (.int .i64 fu) := ((HT6.out.alloc _).xf.cell 2).trans rfl; have gl0 : (w6.alloc (.cells #[.slice (some ⟨b9, 0, none⟩) flen flen, .int .i64 fd, .int .i64 fu] 26 (0, 0))).cell? ⟨w.heap.size + 1, 0, none⟩ = some (.slice ad len cap) := ((HT6.out.alloc _).xl.cell 0).trans rfl; have gl1 : (w6.alloc (.cells #[.slice (some ⟨b9, 0, none⟩) flen flen, .int .i64 fd, .int .i64 fu] 26 (0, 0))).cell? ⟨w.heap.size + 1, 1, none⟩ = some (.int .i64 hd) := ((HT6.out.alloc _).xl.cell 1).trans rfl; clear i6 C9 s9 b6)
    | (go_at_call 40; refine (toLedger_any _ _ _ es _ _ hnn HNJ.out (HT6.out.alloc _).er).mono ?_; rintro e w7 ⟨b10, bl10, rfl, hb10, hbl, o7, b7⟩; have HT7 : Hid (TB w fa flen fcap fc fd fu ad len cap es hd w7) := (HT6.out.alloc _).below b7; have HO7 : Hid (w7.ownsRow bo 3 1 (.slice ad0 M c0) M XS) := row_below (row_below HO6.out ((Below.refl _ _).alloc (Nat.le_refl _) _)) b7; have HI7 : Hid (CR w7 (some ⟨b9, 0, none⟩) flen fc) := (HI6.out.alloc _).below b7; have HK7 : Hid (CB w7 b9 cs9 182) := (HK6.out.alloc _).below b7 (by simp; omega); have HX7 : Hid (CB w7 w6.heap.size #[.slice (some ⟨b9, 0, none⟩) flen flen, .int .i64 fd, .int .i64 fu] 26) := (CB.new _ _).below b7 (by simp); have hs7 : w6.heap.size + 1 ≤ w7.heap.size := (by have := b7.size; simpa using this); have HN7 : Hid (NewE (w6.heap.size + 1) w7.heap.size w7 (some ⟨b10, 0, none⟩) len es 32 56) := o7.new (Nat.le_refl _) (by simpa using hb10) (fun j hj => by have h5 := hbl j hj; have h6 : w6.heap.size + 1 ≤ b10 := (by simpa using hb10); omega); clear gf0 gf1 gf2 gl0 gl1; have m0 : (w7.alloc (.cells #[.slice (some ⟨b10, 0, none⟩) len len, .int .i64 hd] 29 (0, 0))).cell? ⟨w6.heap.size, 0, none⟩ = some (.slice (some ⟨b9, 0, none⟩) flen flen) := ((HX7.out.alloc _).cell 0).trans rfl; have m1 : (w7.alloc (.cells #[.slice (some ⟨b10, 0, none⟩) len len, .int .i64 hd] 29 (0, 0))).cell? ⟨w6.heap.size, 1, none⟩ = some (.int .i64 fd) := ((HX7.out.alloc _).cell 1).trans rfl; have m2 : (w7.alloc (.cells #[.slice (some ⟨b10, 0, none⟩) len len, .int .i64 hd] 29 (0, 0))).cell? ⟨w6.heap.size, 2, none⟩ = some (.int .i64 fu) := ((HX7.out.alloc _).cell 2).trans rfl; clear o7 b7 hbl hb10)
    | (go_at_call 21; refine (HIM.out _ _ _ _ _ (HI7.out.alloc _) ((HE.out.below HT7.out.bl h9).alloc' _) (HN7.out.row.alloc _)).mono ?_; rintro e w8 ⟨adg, capg, rfl, o8, b8⟩; have HT8 : Hid (TB w fa flen fcap fc fd fu ad len cap es hd w8) := (HT7.out.alloc _).below b8; have HU8 : Hid (UB fc flen fd fu es len hd w6.heap.size b9 w7.heap.size b10 (w6.heap.size + 1) w7.heap.size cs9 bo (.slice ad0 M c0) (w7.heap.size + 1) (.slice adg M capg) M XS w8) := ⟨(HX7.out.alloc _).below b8 (by simp; omega), (CB.new _ _).below b8 (by simp), (HI7.out.alloc _).below b8, (HK7.out.alloc _).below b8 (by simp; omega), (HN7.out.below ((Below.refl _ _).alloc (Nat.le_refl _) _)).below b8, row_below (row_below HO7.out ((Below.refl _ _).alloc (Nat.le_refl _) _)) b8, (by simpa using o8)⟩; clear m0 m1 m2 o8 b8)
    | (go_at_call 48; refine (eqIntS_same _ _ _ _ _ _ _ hM1 (row_IR HU8.out.g HZZ.out) (row_IR HU8.out.o HZZ.out)).mono ?_; rintro e w9 ⟨rfl, b9'⟩; have HT9 : Hid (TB w fa flen fcap fc fd fu ad len cap es hd w9) := HT8.out.below b9'; have HU9 : Hid (UB fc flen fd fu es len hd w6.heap.size b9 w7.heap.size b10 (w6.heap.size + 1) w7.heap.size cs9 bo (.slice ad0 M c0) (w7.heap.size + 1) (.slice adg M capg) M XS w9) := HU8.out.below b9'; clear b9'))
  obtain ⟨p9, hp9⟩ : ∃ p9, w6.heap.size = p9 := ⟨_, rfl⟩
  obtain ⟨p10, hp10⟩ : ∃ p10, w7.heap.size = p10 := ⟨_, rfl⟩
  rw [hp9, hp10] at HU9
  rw [hp9] at hs6 hs9 hs7
  rw [hp10] at hs7
  obtain ⟨lo, hlo⟩ : ∃ lo, p9 + 1 = lo := ⟨_, rfl⟩
  obtain ⟨bg, hbg⟩ : ∃ bg, p10 + 1 = bg := ⟨_, rfl⟩
  obtain ⟨hi, hhi⟩ : ∃ hi, p10 = hi := ⟨_, rfl⟩
  have HU9' : Hid (UB fc flen fd fu es len hd p9 b9 p10 b10 lo hi cs9 bo (.slice ad0 M c0) bg (.slice adg M capg) M XS w9) := by have := HU9.out; rw [hlo, hbg] at this; rw [← hhi]; exact this
  have HPO : Hid (p9 + 1 = lo ∧ p10 + 1 = bg ∧ p10 = hi) := ⟨hlo, hbg, hhi⟩
  clear HU9 HU8 HT8 HT7 HT6 HO6 HO7 HI6 HI7 HK6 HK7 HX7 HN7 hlo hbg hhi
  rw [hp9, hp10]
  have t9 : TB w fa flen fcap fc fd fu ad len cap es hd w9.drew := HT9.out.drew
  have u9 : UB fc flen fd fu es len hd p9 b9 p10 b10 lo hi cs9 bo (.slice ad0 M c0) bg (.slice adg M capg) M XS w9.drew := HU9'.out.drew
  have hf0 : w9.cell? ⟨w.heap.size, 0, none⟩ = some (.slice fa flen fcap) := (HT9.out.xf.cell 0).trans rfl
  have hf1 : w9.cell? ⟨w.heap.size, 1, none⟩ = some (.int .i64 fd) := (HT9.out.xf.cell 1).trans rfl
  have hf2 : w9.cell? ⟨w.heap.size, 2, none⟩ = some (.int .i64 fu) := (HT9.out.xf.cell 2).trans rfl
  have hl0 : w9.cell? ⟨w.heap.size + 1, 0, none⟩ = some (.slice ad len cap) := (HT9.out.xl.cell 0).trans rfl
  have hl1 : w9.cell? ⟨w.heap.size + 1, 1, none⟩ = some (.int .i64 hd) := (HT9.out.xl.cell 1).trans rfl
  have hp0 : w9.cell? ⟨p9, 0, none⟩ = some (.slice (some ⟨b9, 0, none⟩) flen flen) := (HU9'.out.x9.cell 0).trans rfl
  have hp1 : w9.cell? ⟨p9, 1, none⟩ = some (.int .i64 fd) := (HU9'.out.x9.cell 1).trans rfl
  have hp2 : w9.cell? ⟨p9, 2, none⟩ = some (.int .i64 fu) := (HU9'.out.x9.cell 2).trans rfl
  have hq0 : w9.cell? ⟨p10, 0, none⟩ = some (.slice (some ⟨b10, 0, none⟩) len len) := (HU9'.out.x10.cell 0).trans rfl
  have hq1 : w9.cell? ⟨p10, 1, none⟩ = some (.int .i64 hd) := (HU9'.out.x10.cell 1).trans rfl
  go_region_held3 (fun w' => w'.cell? ⟨w.heap.size, 0, none⟩ = some (.slice fa flen fcap) ∧ w'.cell? ⟨w.heap.size, 1, none⟩ = some (.int .i64 fd) ∧ w'.cell? ⟨w.heap.size, 2, none⟩ = some (.int .i64 fu) ∧ w'.cell? ⟨w.heap.size + 1, 0, none⟩ = some (.slice ad len cap) ∧ w'.cell? ⟨w.heap.size + 1, 1, none⟩ = some (.int .i64 hd) ∧ w'.cell? ⟨p9, 0, none⟩ = some (.slice (some ⟨b9, 0, none⟩) flen flen) ∧ w'.cell? ⟨p9, 1, none⟩ = some (.int .i64 fd) ∧ w'.cell? ⟨p9, 2, none⟩ = some (.int .i64 fu) ∧ w'.cell? ⟨p10, 0, none⟩ = some (.slice (some ⟨b10, 0, none⟩) len len) ∧ w'.cell? ⟨p10, 1, none⟩ = some (.int .i64 hd) ∧ TB w fa flen fcap fc fd fu ad len cap es hd w' ∧ UB fc flen fd fu es len hd p9 b9 p10 b10 lo hi cs9 bo (.slice ad0 M c0) bg (.slice adg M capg) M XS w')
    (refine ⟨?_, ?_, ?_, ?_, ?_, ?_, ?_, ?_, ?_, ?_, ?_, ?_⟩ <;> first | assumption | (simp [*]; done))
    (first
      | (go_at_call 31; refine (toFrame_any _ _ _ fc _ _ _ hb (TB.cr (w := w) (fcap := fcap) (fd := fd) (fu := fu) (ad := ad) (len := len) (cap := cap) (es := es) (hd := hd) (by assumption))).mono ?_; rintro e w10 ⟨bc, rfl, _, i10, b10'⟩; have t10 : TB w fa flen fcap fc fd fu ad len cap es hd w10 := TB.below (by assumption) b10'; have u10 : UB fc flen fd fu es len hd p9 b9 p10 b10 lo hi cs9 bo (.slice ad0 M c0) bg (.slice adg M capg) M XS w10 := UB.below (by assumption) b10'; have if0 : w10.cell? ⟨w.heap.size, 0, none⟩ = some (.slice fa flen fcap) := (t10.xf.cell 0).trans rfl; have if1 : w10.cell? ⟨w.heap.size, 1, none⟩ = some (.int .i64 fd) := (t10.xf.cell 1).trans rfl; have if2 : w10.cell? ⟨w.heap.size, 2, none⟩ = some (.int .i64 fu) := (t10.xf.cell 2).trans rfl; have il0 : w10.cell? ⟨w.heap.size + 1, 0, none⟩ = some (.slice ad len cap) := (t10.xl.cell 0).trans rfl; have il1 : w10.cell? ⟨w.heap.size + 1, 1, none⟩ = some (.int .i64 hd) := (t10.xl.cell 1).trans rfl; have ip0 : w10.cell? ⟨p9, 0, none⟩ = some (.slice (some ⟨b9, 0, none⟩) flen flen) := (u10.x9.cell 0).trans rfl; have ip1 : w10.cell? ⟨p9, 1, none⟩ = some (.int .i64 fd) := (u10.x9.cell 1).trans rfl; have ip2 : w10.cell? ⟨p9, 2, none⟩ = some (.int .i64 fu) := (u10.x9.cell 2).trans rfl; have iq0 : w10.cell? ⟨p10, 0, none⟩ = some (.slice (some ⟨b10, 0, none⟩) len len) := (u10.x10.cell 0).trans rfl; have iq1 : w10.cell? ⟨p10, 1, none⟩ = some (.int .i64 hd) := (u10.x10.cell 1).trans rfl)
      | (go_at_call 33; refine (eqFrame_same _ _ _ _ _ fc _ _ _ hb (UB.c9 (fd := fd) (fu := fu) (es := es) (len := len) (hd := hd) (p9 := p9) (p10 := p10) (b10 := b10) (lo := lo) (hi := hi) (cs9 := cs9) (bo := bo) (vo := .slice ad0 M c0) (bg := bg) (vg := .slice adg M capg) (M := M) (xs := XS) (by assumption)) (by assumption)).mono ?_; rintro e w11 ⟨rfl, b11⟩; have t11 : TB w fa flen fcap fc fd fu ad len cap es hd w11 := TB.below (by assumption) b11; have u11 : UB fc flen fd fu es len hd p9 b9 p10 b10 lo hi cs9 bo (.slice ad0 M c0) bg (.slice adg M capg) M XS w11 := UB.below (by assumption) b11; have jf0 : w11.cell? ⟨w.heap.size, 0, none⟩ = some (.slice fa flen fcap) := (t11.xf.cell 0).trans rfl; have jf1 : w11.cell? ⟨w.heap.size, 1, none⟩ = some (.int .i64 fd) := (t11.xf.cell 1).trans rfl; have jf2 : w11.cell? ⟨w.heap.size, 2, none⟩ = some (.int .i64 fu) := (t11.xf.cell 2).trans rfl; have jl0 : w11.cell? ⟨w.heap.size + 1, 0, none⟩ = some (.slice ad len cap) := (t11.xl.cell 0).trans rfl; have jl1 : w11.cell? ⟨w.heap.size + 1, 1, none⟩ = some (.int .i64 hd) := (t11.xl.cell 1).trans rfl; have jp0 : w11.cell? ⟨p9, 0, none⟩ = some (.slice (some ⟨b9, 0, none⟩) flen flen) := (u11.x9.cell 0).trans rfl; have jp1 : w11.cell? ⟨p9, 1, none⟩ = some (.int .i64 fd) := (u11.x9.cell 1).trans rfl; have jp2 : w11.cell? ⟨p9, 2, none⟩ = some (.int .i64 fu) := (u11.x9.cell 2).trans rfl; have jq0 : w11.cell? ⟨p10, 0, none⟩ = some (.slice (some ⟨b10, 0, none⟩) len len) := (u11.x10.cell 0).trans rfl; have jq1 : w11.cell? ⟨p10, 1, none⟩ = some (.int .i64 hd) := (u11.x10.cell 1).trans rfl))
  go_wp2
  have HT11 : Hid (TB w fa flen fcap fc fd fu ad len cap es hd w11) := t11
  have HU11 : Hid (UB fc flen fd fu es len hd p9 b9 p10 b10 lo hi cs9 bo (.slice ad0 M c0) bg (.slice adg M capg) M XS w11) := u11
  have v11 : TB w fa flen fcap fc fd fu ad len cap es hd w11.drew := HT11.out.drew
  have x11 : UB fc flen fd fu es len hd p9 b9 p10 b10 lo hi cs9 bo (.slice ad0 M c0) bg (.slice adg M capg) M XS w11.drew := HU11.out.drew
  clear t9 u9 t10 u10 t11 u11 i10 b10' b11 hf0 hf1 hf2 hl0 hl1 hp0 hp1 hp2 hq0 hq1 if0 if1 if2 il0 il1 ip0 ip1 ip2 iq0 iq1
  go_region_held3 (fun w' => w'.cell? ⟨w.heap.size, 0, none⟩ = some (.slice fa flen fcap) ∧ w'.cell? ⟨w.heap.size, 1, none⟩ = some (.int .i64 fd) ∧ w'.cell? ⟨w.heap.size, 2, none⟩ = some (.int .i64 fu) ∧ w'.cell? ⟨w.heap.size + 1, 0, none⟩ = some (.slice ad len cap) ∧ w'.cell? ⟨w.heap.size + 1, 1, none⟩ = some (.int .i64 hd) ∧ w'.cell? ⟨p9, 0, none⟩ = some (.slice (some ⟨b9, 0, none⟩) flen flen) ∧ w'.cell? ⟨p9, 1, none⟩ = some (.int .i64 fd) ∧ w'.cell? ⟨p9, 2, none⟩ = some (.int .i64 fu) ∧ w'.cell? ⟨p10, 0, none⟩ = some (.slice (some ⟨b10, 0, none⟩) len len) ∧ w'.cell? ⟨p10, 1, none⟩ = some (.int .i64 hd) ∧ TB w fa flen fcap fc fd fu ad len cap es hd w' ∧ UB fc flen fd fu es len hd p9 b9 p10 b10 lo hi cs9 bo (.slice ad0 M c0) bg (.slice adg M capg) M XS w')
    (refine ⟨?_, ?_, ?_, ?_, ?_, ?_, ?_, ?_, ?_, ?_, ?_, ?_⟩ <;> first | assumption | (simp [*]; done))
    (first
      | (go_at_call 40; refine (toLedger_any _ _ _ es _ _ hnn HNJ.out (TB.er (w := w) (fa := fa) (flen := flen) (fcap := fcap) (fc := fc) (fd := fd) (fu := fu) (cap := cap) (hd := hd) (by assumption))).mono ?_; rintro e w12 ⟨bd, bl12, rfl, _, _, o12, b12⟩; have i12 := o12.row; clear o12; have t12 : TB w fa flen fcap fc fd fu ad len cap es hd w12 := TB.below (by assumption) b12; have u12 : UB fc flen fd fu es len hd p9 b9 p10 b10 lo hi cs9 bo (.slice ad0 M c0) bg (.slice adg M capg) M XS w12 := UB.below (by assumption) b12; have kf0 : w12.cell? ⟨w.heap.size, 0, none⟩ = some (.slice fa flen fcap) := (t12.xf.cell 0).trans rfl; have kf1 : w12.cell? ⟨w.heap.size, 1, none⟩ = some (.int .i64 fd) := (t12.xf.cell 1).trans rfl; have kf2 : w12.cell? ⟨w.heap.size, 2, none⟩ = some (.int .i64 fu) := (t12.xf.cell 2).trans rfl; have kl0 : w12.cell? ⟨w.heap.size + 1, 0, none⟩ = some (.slice ad len cap) := (t12.xl.cell 0).trans rfl; have kl1 : w12.cell? ⟨w.heap.size + 1, 1, none⟩ = some (.int .i64 hd) := (t12.xl.cell 1).trans rfl; have kp0 : w12.cell? ⟨p9, 0, none⟩ = some (.slice (some ⟨b9, 0, none⟩) flen flen) := (u12.x9.cell 0).trans rfl; have kp1 : w12.cell? ⟨p9, 1, none⟩ = some (.int .i64 fd) := (u12.x9.cell 1).trans rfl; have kp2 : w12.cell? ⟨p9, 2, none⟩ = some (.int .i64 fu) := (u12.x9.cell 2).trans rfl; have kq0 : w12.cell? ⟨p10, 0, none⟩ = some (.slice (some ⟨b10, 0, none⟩) len len) := (u12.x10.cell 0).trans rfl; have kq1 : w12.cell? ⟨p10, 1, none⟩ = some (.int .i64 hd) := (u12.x10.cell 1).trans rfl)
      | (go_at_call 41; refine (eqLedger_same _ _ _ _ _ es _ _ hnn HNJ.out (NewE.row (lo := lo) (hi := hi) (t := 32) (tl := 56) (UB.n10 (fc := fc) (flen := flen) (fd := fd) (fu := fu) (hd := hd) (p9 := p9) (b9 := b9) (p10 := p10) (cs9 := cs9) (bo := bo) (vo := .slice ad0 M c0) (bg := bg) (vg := .slice adg M capg) (M := M) (xs := XS) (by assumption))) (by assumption)).mono ?_; rintro e w13 ⟨rfl, b13⟩; have t13 : TB w fa flen fcap fc fd fu ad len cap es hd w13 := TB.below (by assumption) b13; have u13 : UB fc flen fd fu es len hd p9 b9 p10 b10 lo hi cs9 bo (.slice ad0 M c0) bg (.slice adg M capg) M XS w13 := UB.below (by assumption) b13; have mf0 : w13.cell? ⟨w.heap.size, 0, none⟩ = some (.slice fa flen fcap) := (t13.xf.cell 0).trans rfl; have mf1 : w13.cell? ⟨w.heap.size, 1, none⟩ = some (.int .i64 fd) := (t13.xf.cell 1).trans rfl; have mf2 : w13.cell? ⟨w.heap.size, 2, none⟩ = some (.int .i64 fu) := (t13.xf.cell 2).trans rfl; have ml0 : w13.cell? ⟨w.heap.size + 1, 0, none⟩ = some (.slice ad len cap) := (t13.xl.cell 0).trans rfl; have ml1 : w13.cell? ⟨w.heap.size + 1, 1, none⟩ = some (.int .i64 hd) := (t13.xl.cell 1).trans rfl; have mp0 : w13.cell? ⟨p9, 0, none⟩ = some (.slice (some ⟨b9, 0, none⟩) flen flen) := (u13.x9.cell 0).trans rfl; have mp1 : w13.cell? ⟨p9, 1, none⟩ = some (.int .i64 fd) := (u13.x9.cell 1).trans rfl; have mp2 : w13.cell? ⟨p9, 2, none⟩ = some (.int .i64 fu) := (u13.x9.cell 2).trans rfl; have mq0 : w13.cell? ⟨p10, 0, none⟩ = some (.slice (some ⟨b10, 0, none⟩) len len) := (u13.x10.cell 0).trans rfl; have mq1 : w13.cell? ⟨p10, 1, none⟩ = some (.int .i64 hd) := (u13.x10.cell 1).trans rfl))
  have HT13 : Hid (TB w fa flen fcap fc fd fu ad len cap es hd w13) := t13
  have HU13 : Hid (UB fc flen fd fu es len hd p9 b9 p10 b10 lo hi cs9 bo (.slice ad0 M c0) bg (.slice adg M capg) M XS w13) := u13
  clear v11 x11 t12 u12 t13 u13 i12 b12 b13 jf0 jf1 jf2 jl0 jl1 jp0 jp1 jp2 jq0 jq1 kf0 kf1 kf2 kl0 kl1 kp0 kp1 kp2 kq0 kq1
  have tok1 : True := trivial
  go_wp2_with (first
    | (go_at_call 42; refine (markFrame_is _ _ _ _ _ cs9 _ hb HU13.out.k9 HS9.out).mono ?_; rintro e w14 ⟨rfl, kr⟩; have HT14 : Hid (TB w fa flen fcap fc fd fu ad len cap es hd w14) := HT13.out.kr kr (by omega) HR.out HLd.out; have HX14 : Hid (CB w14 p10 #[.slice (some ⟨b10, 0, none⟩) len len, .int .i64 hd] 29) := HU13.out.x10.kr2 kr (by have := HPO.out; omega); have HN14 : Hid (NewE lo hi w14 (some ⟨b10, 0, none⟩) len es 32 56) := HU13.out.n10.kr kr (by have := HPO.out; omega); have HO14 : Hid (w14.ownsRow bo 3 1 (.slice ad0 M c0) M XS) := row_kr HU13.out.o kr (fun g hg => by have := QO.out g hg; omega); have HG14 : Hid (w14.ownsRow bg 3 1 (.slice adg M capg) M XS) := row_kr HU13.out.g kr (fun g hg => by have := (HU13.out.g.lt g hg).1; have := HPO.out; omega); clear kr; have z0 := (HX14.out.cell 0).trans rfl; have z1 := (HX14.out.cell 1).trans rfl)
    | (go_at_call 43; refine (markLedger_is _ _ _ es _ _ _ _ _ hnn HNJ.out (by omega) (by omega) HN14.out).mono ?_; rintro e w15 ⟨rfl, _, kr⟩; have HT15 : Hid (TB w fa flen fcap fc fd fu ad len cap es hd w15) := HT14.out.kr kr (by have := HPO.out; omega) HR.out HLd.out; have HO15 : Hid (w15.ownsRow bo 3 1 (.slice ad0 M c0) M XS) := row_kr HO14.out kr (fun g hg => by have := QO.out g hg; have := HPO.out; omega); have HG15 : Hid (w15.ownsRow bg 3 1 (.slice adg M capg) M XS) := row_kr HG14.out kr (fun g hg => by have := (HG14.out.lt g hg).1; have := HPO.out; omega); clear kr; have hk1 := kE_bound (k := 3 * (flen : Int) + 1) (es := es) (n := len) (by omega) HNJ.out len (Nat.le_refl _); have hk2 := hk1.1; have hk3 := hk1.2; clear hk1)
    | (go_at_call 48; clear tok1; refine (eqIntS_same _ _ _ _ _ _ _ hM1 (row_IR HG15.out HZZ.out) (row_IR HO15.out HZZ.out)).mono ?_; rintro e w16 ⟨rfl, b16⟩; have HT16 : Hid (TB w fa flen fcap fc fd fu ad len cap es hd w16) := HT15.out.below b16; have HO16 : Hid (w16.ownsRow bo 3 1 (.slice ad0 M c0) M XS) := row_below HO15.out b16; have HG16 : Hid (w16.ownsRow bg 3 1 (.slice adg M capg) M XS) := row_below HG15.out b16; clear b16)
    | (go_at_call 49; refine (markIntS_any _ _ _ bg _ _ hM1 HG16.out).mono ?_; rintro e w17 ⟨rfl, gb, kk, bb⟩; have hbg2 : w.heap.size + 2 ≤ bg := (by have := HPO.out; omega); have HB17 : Hid (Below w.heap.size w w17) := HT16.out.bl.trans (bb.mono (by omega)); have HT17 : Hid (TB w fa flen fcap fc fd fu ad len cap es hd w17) := ⟨HT16.out.xf.below bb (by omega), HT16.out.xl.below bb (by omega), HR.out.below HB17.out, HLd.out.below HB17.out, HB17.out⟩; have HO17 : Hid (w17.ownsRow bo 3 1 (.slice ad0 M c0) M XS) := row_block HO16.out (fun g hg => kk g (HO16.out.lt g hg).2 (fun q => by have h1 := QO.out g hg; have h2 := (HG16.out.lt g q.symm).1; have := HPO.out; omega)); have HH17 : Hid (IR w17 adg M (fun j => (j : Int) + 1)) := gb; clear kk bb gb; have nf0 : w17.cell? ⟨w.heap.size, 0, none⟩ = some (.slice fa flen fcap) := (HT17.out.xf.cell 0).trans rfl; have nf1 : w17.cell? ⟨w.heap.size, 1, none⟩ = some (.int .i64 fd) := (HT17.out.xf.cell 1).trans rfl; have nf2 : w17.cell? ⟨w.heap.size, 2, none⟩ = some (.int .i64 fu) := (HT17.out.xf.cell 2).trans rfl; have nl0 : w17.cell? ⟨w.heap.size + 1, 0, none⟩ = some (.slice ad len cap) := (HT17.out.xl.cell 0).trans rfl; have nl1 : w17.cell? ⟨w.heap.size + 1, 1, none⟩ = some (.int .i64 hd) := (HT17.out.xl.cell 1).trans rfl)
    | (go_at_call 50; refine (heldIntS_any _ _ _ _ hM1 HH17.out).mono ?_; rintro e wh ⟨rfl, ew⟩; replace ew := ew.symm; subst ew))
  have t17 : TB w fa flen fcap fc fd fu ad len cap es hd w17.drew := HT17.out.drew
  have x17 : w17.drew.ownsRow bo 3 1 (.slice ad0 M c0) M XS := row_below HO17.out (Below.refl _ _).drew
  have y17 : IR w17.drew adg M (fun j => (j : Int) + 1) := HH17.out.below (Below.refl _ _).drew
  go_region_held3 (fun w' => w'.cell? ⟨w.heap.size, 0, none⟩ = some (.slice fa flen fcap) ∧ w'.cell? ⟨w.heap.size, 1, none⟩ = some (.int .i64 fd) ∧ w'.cell? ⟨w.heap.size, 2, none⟩ = some (.int .i64 fu) ∧ w'.cell? ⟨w.heap.size + 1, 0, none⟩ = some (.slice ad len cap) ∧ w'.cell? ⟨w.heap.size + 1, 1, none⟩ = some (.int .i64 hd) ∧ TB w fa flen fcap fc fd fu ad len cap es hd w' ∧ w'.ownsRow bo 3 1 (.slice ad0 M c0) M XS ∧ IR w' adg M (fun j => (j : Int) + 1))
    (refine ⟨?_, ?_, ?_, ?_, ?_, ?_, ?_, ?_⟩ <;> first | assumption | (simp [*]; done))
    (first
      | (go_at_call 31; refine (toFrame_any _ _ _ fc _ _ _ hb (TB.cr (w := w) (fcap := fcap) (fd := fd) (fu := fu) (ad := ad) (len := len) (cap := cap) (es := es) (hd := hd) (by assumption))).mono ?_; rintro e w18 ⟨bx, rfl, _, i18, b18⟩; have t18 : TB w fa flen fcap fc fd fu ad len cap es hd w18 := TB.below (by assumption) b18; have rf0 : w18.cell? ⟨w.heap.size, 0, none⟩ = some (.slice fa flen fcap) := (t18.xf.cell 0).trans rfl; have rf1 : w18.cell? ⟨w.heap.size, 1, none⟩ = some (.int .i64 fd) := (t18.xf.cell 1).trans rfl; have rf2 : w18.cell? ⟨w.heap.size, 2, none⟩ = some (.int .i64 fu) := (t18.xf.cell 2).trans rfl; have rl0 : w18.cell? ⟨w.heap.size + 1, 0, none⟩ = some (.slice ad len cap) := (t18.xl.cell 0).trans rfl; have rl1 : w18.cell? ⟨w.heap.size + 1, 1, none⟩ = some (.int .i64 hd) := (t18.xl.cell 1).trans rfl; have xow18 : w18.ownsRow bo 3 1 (.slice ad0 M c0) M XS := row_below (by assumption) b18; have yow18 : IR w18 adg M (fun j => (j : Int) + 1) := IR.below (by assumption) b18; try (have y18 : ER w18 (some ⟨by1, 0, none⟩) len es := ER.below (by assumption) b18))
      | (go_at_call 40; refine (toLedger_any _ _ _ es _ _ hnn HNJ.out (TB.er (w := w) (fa := fa) (flen := flen) (fcap := fcap) (fc := fc) (fd := fd) (fu := fu) (cap := cap) (hd := hd) (by assumption))).mono ?_; rintro e w19 ⟨by1, bl19, rfl, _, _, o19, b19⟩; have i19 := o19.row; clear o19; have t19 : TB w fa flen fcap fc fd fu ad len cap es hd w19 := TB.below (by assumption) b19; have sf0 : w19.cell? ⟨w.heap.size, 0, none⟩ = some (.slice fa flen fcap) := (t19.xf.cell 0).trans rfl; have sf1 : w19.cell? ⟨w.heap.size, 1, none⟩ = some (.int .i64 fd) := (t19.xf.cell 1).trans rfl; have sf2 : w19.cell? ⟨w.heap.size, 2, none⟩ = some (.int .i64 fu) := (t19.xf.cell 2).trans rfl; have sl0 : w19.cell? ⟨w.heap.size + 1, 0, none⟩ = some (.slice ad len cap) := (t19.xl.cell 0).trans rfl; have sl1 : w19.cell? ⟨w.heap.size + 1, 1, none⟩ = some (.int .i64 hd) := (t19.xl.cell 1).trans rfl; have xow19 : w19.ownsRow bo 3 1 (.slice ad0 M c0) M XS := row_below (by assumption) b19; have yow19 : IR w19 adg M (fun j => (j : Int) + 1) := IR.below (by assumption) b19; try (have y19 : CR w19 (some ⟨bx, 0, none⟩) flen fc := CR.below (by assumption) b19))
      | (go_at_call 21; refine (HIM.out _ _ _ _ _ (by assumption) (HE.out.below (TB.bl (w := w) (fa := fa) (flen := flen) (fcap := fcap) (fc := fc) (fd := fd) (fu := fu) (ad := ad) (len := len) (cap := cap) (es := es) (hd := hd) (by assumption)) h9) (by assumption)).mono ?_; rintro e w20 ⟨adh, caph, rfl, o20, b20⟩; have t20 : TB w fa flen fcap fc fd fu ad len cap es hd w20 := TB.below (by assumption) b20; have tf0 : w20.cell? ⟨w.heap.size, 0, none⟩ = some (.slice fa flen fcap) := (t20.xf.cell 0).trans rfl; have tf1 : w20.cell? ⟨w.heap.size, 1, none⟩ = some (.int .i64 fd) := (t20.xf.cell 1).trans rfl; have tf2 : w20.cell? ⟨w.heap.size, 2, none⟩ = some (.int .i64 fu) := (t20.xf.cell 2).trans rfl; have tl0 : w20.cell? ⟨w.heap.size + 1, 0, none⟩ = some (.slice ad len cap) := (t20.xl.cell 0).trans rfl; have tl1 : w20.cell? ⟨w.heap.size + 1, 1, none⟩ = some (.int .i64 hd) := (t20.xl.cell 1).trans rfl; have xow20 : w20.ownsRow bo 3 1 (.slice ad0 M c0) M XS := row_below (by assumption) b20; have yow20 : IR w20 adg M (fun j => (j : Int) + 1) := IR.below (by assumption) b20))
  have HT20 : Hid (TB w fa flen fcap fc fd fu ad len cap es hd w20) := t20
  have HO20 : Hid (w20.ownsRow bo 3 1 (.slice ad0 M c0) M XS) := xow20
  have HH20 : Hid (IR w20 adg M (fun j => (j : Int) + 1)) := yow20
  have HE20 : Hid (IR w20 adh M (fun j => (balV (j : Int) (-1) (-1) 0 a2 len es).2)) := row_IR o20 HZZ.out
  clear t17 x17 y17 t18 t19 t20 i18 i19 b18 b19 b20 o20 xow18 yow18 xow19 yow19 xow20 yow20
  go_wp2_with (first
    | (go_at_call 48; refine (eqIntS_same _ _ _ _ _ _ _ hM1 HE20.out (row_IR HO20.out HZZ.out)).mono ?_; rintro e w21 ⟨rfl, b21⟩; have HT21 : Hid (TB w fa flen fcap fc fd fu ad len cap es hd w21) := HT20.out.below b21; have HH21 : Hid (IR w21 adg M (fun j => (j : Int) + 1)) := HH20.out.below b21; clear b21)
    | (go_at_call 50; refine (heldIntS_any _ _ _ _ hM1 HH21.out).mono ?_; rintro e wh ⟨rfl, ew⟩; replace ew := ew.symm; subst ew))
  go_returns
  exact ⟨rfl, HT21.out.bl⟩

set_option maxRecDepth 100000 in
theorem lifted (os : Os) (started : os.Started) (H : Type) (enc : TypeId × Value → H) :
    ReturnsInHanded {} Tryd.checked os 11 .any (fun w args => (Rows.fnExactTrialSpec.pre enc Tryd.prog Tryd.f11 [] false w args ∧ laidMetH Tryd.prog laid7 w) ∧ sizedMet enc Tryd.prog Tryd.f11 (OpenSpec.ofChange Rows.fnExactTrialSpec) false w args)
      (Rows.fnExactTrialSpec.post enc Tryd.prog Tryd.f11 false true false false) := by
  refine returnsInHanded_of_change_and (C := Tryd.checked) (X := fun w _ => laidMetH Tryd.prog laid7 w) (fun _ _ _ hh h => h.of_heap hh) own started (by kernel_rfl) Tryd.func11
    (ChangeSpec.witness_shaped (enc := enc) (C := Tryd.checked) (os := os) (X := fun w _ => laidMetH Tryd.prog laid7 w) false (World.doorLaid Tryd.prog 400 os) #[.agg #[.slice none 0 0, .int .i64 0, .int .i64 0], .agg #[.slice none 0 0, .int .i64 0], .int .i64 0] 8 rfl (World.shaped_of_RefB (by kernel_rfl) (by kernel_rfl)) (by kernel_rfl) (by kernel_rfl) (by kernel_rfl) (door_met7 os _)) ?_
  intro W base args ds gs before hval0 hW _ _ hL _
  have hval : ∀ (j : Nat) t v, Tryd.f11.params[j]? = some t → args[j]? = some v → Value.okWide Tryd.prog W .any base t v := hval0
  have hW' := hW
  obtain ⟨p, q, hA0, hV, rfl, hfz, hnd⟩ := hW
  have hA : DataW.TrodAll enc Tryd.prog W 0 (fun _ => true) true Tryd.f11.params.toList args.toList ds p := hA0
  rw [Tryd.params11] at hA hval
  obtain ⟨v0, vs0, d0, ds0, p0, q0, hargs, rfl, rfl, h0, r0⟩ := trodAll_cons hA
  obtain ⟨v1, vs1, d1, ds1, p1, q1, rfl, rfl, rfl, h1, r1⟩ := trodAll_cons r0
  obtain ⟨v2, vs2, d2, ds2, p2, q2, rfl, rfl, rfl, h2, r2⟩ := trodAll_cons r1
  obtain ⟨rfl, rfl, rfl⟩ := trodAll_nil r2
  obtain rfl : args = #[v0, v1, v2] := by cases args; simp_all
  have hV1 := hV
  obtain ⟨x1, x2, x3, x4, x5, x6, x7, rfl⟩ := seven (trodVars_len hV)
  have k0 := h0
  have lt0 : ∀ x ∈ p0, x.block < W.heap.size := by obtain ⟨m, hm⟩ := k0; exact DataW.trod_lt m _ _ _ hm
  have k1 := h1
  have lt1 : ∀ x ∈ p1, x.block < W.heap.size := by obtain ⟨m, hm⟩ := k1; exact DataW.trod_lt m _ _ _ hm
  have k2 := h2
  have lt2 : ∀ x ∈ p2, x.block < W.heap.size := by obtain ⟨m, hm⟩ := k2; exact DataW.trod_lt m _ _ _ hm
  obtain ⟨fx0, fx1, fx2, fy0, fy1, fy2, fnn, rfl, rfl, rfl, fg0, fg1, fg2⟩ := Go.Joins.open_agg3 Tryd.underlying59 (by kernel_rfl) (by kernel_rfl) (hval 0 59 v0 rfl rfl) h0
  obtain ⟨fd, fe1, _, _⟩ := DataW.trod_int Tryd.underlying3 fg1
  obtain rfl : fx1 = .int .i64 fd := by simpa using fe1
  obtain ⟨fu, fe2, _, _⟩ := DataW.trod_int Tryd.underlying3 fg2
  obtain rfl : fx2 = .int .i64 fu := by simpa using fe2
  obtain ⟨fa, flen, fcap, rfl, fT⟩ := slice_of Tryd.underlying57 fg0
  obtain ⟨fc, hfl, hfc, hfr⟩ := curs_of Tryd.underlying57 Tryd.underlying181 (by kernel_rfl) ⟨rfl, rfl, rfl⟩ ⟨by kernel_rfl, by kernel_rfl, by kernel_rfl⟩ Tryd.underlying9 Tryd.underlying3 Tryd.underlying3 fT
  obtain ⟨lx0, lx1, ly0, ly1, lnn, rfl, rfl, rfl, lg0, lg1⟩ := Go.Joins.open_agg2 Tryd.underlying74 (by kernel_rfl) (by kernel_rfl) (hval 1 74 v1 rfl rfl) h1
  obtain ⟨hd, le1, _, _⟩ := DataW.trod_int Tryd.underlying3 lg1
  obtain rfl : lx1 = .int .i64 hd := by simpa using le1
  obtain ⟨ad, len, cap, rfl, lT⟩ := slice_of Tryd.underlying72 lg0
  obtain ⟨es, hl, hm, hr⟩ := entries_of Tryd.underlying72 Tryd.underlying67 (by kernel_rfl) ⟨rfl, rfl, rfl, rfl⟩ ⟨by kernel_rfl, by kernel_rfl, by kernel_rfl, by kernel_rfl⟩ Tryd.underlying3 Tryd.underlying3 Tryd.underlying9 lineT lT
  obtain ⟨a2, rfl, rfl, rfl, w2⟩ := open_int Tryd.underlying3 (hval 2 3 v2 rfl rfl) h2
  clear hA0 hval0
  refine (walk fa flen fcap fc fd fu ad len cap es hd a2 W hfl hfc hfr hl hm hr (of_laid7 hL)).mono fun e W' ⟨he, hg⟩ => ?_
  subst he
  exact ⟨_, rfl, _, _, _, [], _, _, hW', (trodAll_cons_mk (shut_bool Tryd.underlying4 _) trodAll_mk0), (trodAll_cons_mk (Below.trod laidOut (by kernel_rfl) (of_decide_eq_true (by kernel_rfl)) k0 hg lt0) (trodAll_cons_mk (Below.trod laidOut (by kernel_rfl) (of_decide_eq_true (by kernel_rfl)) k1 hg lt1) (trodAll_cons_mk (Below.trod laidOut (by kernel_rfl) (of_decide_eq_true (by kernel_rfl)) k2 hg lt2) trodAll_mk0))), Below.trodVars laidOut hg (by kernel_rfl) hV1, hg.frame _, fun h => by cases h⟩

theorem row_holds : Rows.FnExactTrialSaid :=
  OpenClaim.holds_of_wide 11 Tryd.f11 rfl rfl rfl rfl rfl rfl rfl ⟨rfl, rfl, rfl, rfl, rfl⟩ rfl rfl rfl rfl rfl (by kernel_rfl) Tryd.func11 (by kernel_rfl)
    (of_decide_eq_true (by kernel_rfl)) (by unfold Func.isWrapper; first | (rw [if_pos (by decide +kernel)]; kernel_rfl) | (rw [if_neg (by decide +kernel)]; exact ⟨rfl, rfl⟩))
    (fun os started H enc _ => lifted os started H enc)

end Go.Proofs.YtgnhpjlfdkpaiaaDoor.fnExactTrial

namespace Go.Proofs.YtgnhpjlfdkpaiaaDoor
open Go
theorem fnExactTrial_holds : Rows.FnExactTrialCardSaid :=
  Claim7.holds_tied_plain_at .later [] [.sentinel, .sentinel, .sentinel, .sentinel, .sentinel, .sentinel, .sentinel] true (true, "ccd1ef061b523aabb51411168b790821f25efaf6af84088de9bcc3d19a071f20") false
    fnExactTrial.row_holds (fun _ h => by cases h) (by kernel_rfl) (fun _ h => by cases h) fnExactTrial_row_tie rfl ⟨rfl, rfl⟩ (by kernel_rfl) rfl
    (fun f fn hf hfn => by
      obtain rfl : f = 11 := Option.some.inj ((show Tryd.prog.funcNamed "loop.example/g00040/laws.FnExactTrial" = some 11 by kernel_rfl).symm.trans hf) |>.symm
      obtain rfl : fn = Tryd.f11 := (Option.some.inj (Tryd.func11.symm.trans hfn)).symm
      exact ⟨by kernel_rfl, fun j t ht => by
        rw [Tryd.params11] at ht
        have hm : t ∈ [59, 74, 3] := by simpa using Array.mem_of_getElem? ht
        have hall : ([59, 74, 3].all fun u => !Tryd.prog.wantsStandIn u) = true := by kernel_rfl
        exact (show Tryd.prog.wantsStandIn t = false by simpa using List.all_eq_true.1 hall t hm)⟩)
    (by kernel_rfl)
#print axioms fnExactTrial_holds
end Go.Proofs.YtgnhpjlfdkpaiaaDoor
