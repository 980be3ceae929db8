/- A quantity moved within a stock by the program. -/
import Derived.Test.YtpmnnfjabppahaaMa
import Derived.Test.YtpmnnfjabppahaaBc
namespace Go.Proofs.Ytpmnnfjabppahaa
open Go Go.ChangeShapes Go.WideShapes Go.ChangeAt Go.RowKit
set_option linter.unusedVariables false
set_option linter.unusedSimpArgs false

noncomputable def mwV (n : Nat) (c : Nat → CE6) (at_ : Int) (p : ByteArray) (q : Int) : Int := if stB n c = true then mvT n c at_ p q else 1
noncomputable def mwM (n : Nat) (c : Nat → CE6) (at_ : Int) (p : ByteArray) (q : Int) : Nat := if stB n c = true then (if mvT n c at_ p q = 0 then mvN n c at_ p q else n) else 0
noncomputable def mwC (n : Nat) (c : Nat → CE6) (at_ : Int) (p : ByteArray) (q : Int) : Nat → CE6 := if mwV n c at_ p q = 0 then mvC n c at_ p q else c
theorem clo_move (ab pb qb sb mb s cp n lo : Nat) (ad : Option Addr) (c : Nat → CE6) (at_ : Int) (p : ByteArray) (q : Int) (w : World) (hn : n ≤ 100) (hcp : n ≤ cp) (hdis : DisP n c) (hz : CZ c) (hp : p.size ≤ maxLen) (hce : CeN n c) (ha : CB w ab #[.int .i64 at_] 3) (hpb : CB w pb #[.string p] 9) (hqb : CB w qb #[.int .i64 q] 3)
    (hS : CB w sb #[.slice ad n cp, .map (some mb)] 134) (hO : w.ownsRow lo 28 6 (.slice ad n cp) n (rowCE6 c n)) (hM : MK w mb s (plF c n)) (hlo : lo ≤ w.heap.size) (hsb : lo ≤ sb) :
    Calls Try.prog 56 #[.pointer (some ⟨sb, 0, none⟩), .pointer (some ⟨ab, 0, none⟩), .pointer (some ⟨pb, 0, none⟩), .pointer (some ⟨qb, 0, none⟩)] w fun e w' => e = .returned (.int .i64 (mvT n c at_ p q)) ∧ (mvT n c at_ p q = 0 → ∃ ad2 cp2, CB w' sb #[.slice ad2 (mvN n c at_ p q) cp2, .map (some mb)] 134 ∧ OwnCE6 w' lo ad2 (mvN n c at_ p q) (mvC n c at_ p q)) ∧ Below lo w w' := by
  have HS := hid hS
  have HO := hid hO
  have HM := hid hM
  have HDI := hid hdis
  have HCE := hid hce
  have HZ := hid hz
  have x0 : w.cell? ⟨ab, 0, none⟩ = some (.int .i64 at_) := ha.cell 0
  have x1 : w.cell? ⟨pb, 0, none⟩ = some (.string p) := hpb.cell 0
  have x2 : w.cell? ⟨qb, 0, none⟩ = some (.int .i64 q) := hqb.cell 0
  clear hS hO hM hdis hce ha hpb hqb hz
  go_enter Try.func56, Try.ntmps56
  go_wp2_with (go_at_call 57; refine (move_any sb mb s cp n lo ad c at_ p q _ hn hcp HDI.out HZ.out hp HCE.out HS.out HO.out HM.out hlo hsb).mono ?_; rintro e w1 ⟨rfl, r1, b1⟩; have HR1 := hid (And.intro r1 b1); clear r1 b1)
  go_returns
  exact ⟨rfl, HR1.out.1, HR1.out.2⟩
set_option maxRecDepth 20000 in
set_option maxHeartbeats 8000000 in
theorem change_move (ab pb qb : Nat) (a : Addr) (len cap : Nat) (c : Nat → CE6) (at_ : Int) (p : ByteArray) (q : Int) (w : World) (h : (len : Int) ≤ 1048576) (hr : CEr w (some a) len c) (hz : CZ c) (hp : p.size ≤ maxLen) (hx : CB w ab #[.int .i64 at_] 3 ∧ CB w pb #[.string p] 9 ∧ CB w qb #[.int .i64 q] 3) :
    Calls Try.prog 55 #[.slice (some a) len cap, .func (.func 56) #[] #[.pointer (some ⟨ab, 0, none⟩), .pointer (some ⟨pb, 0, none⟩), .pointer (some ⟨qb, 0, none⟩)]] w fun e w' => ∃ ad cp, e = .returned (.tuple #[.slice ad (mwM len c at_ p q) cp, .int .i64 (mwV len c at_ p q)]) ∧ OwnCE6 w' w.heap.size ad (mwM len c at_ p q) (mwC len c at_ p q) ∧ Below w.heap.size w w' := by
  have HR := hid hr
  have HZ := hid hz
  have HX := hid hx
  clear hr hz hx
  cases hs : stB len c
  · have HM : Hid (mwM len c at_ p q = 0 ∧ mwV len c at_ p q = 1) := hid ⟨by unfold mwM; rw [hs]; rfl, by unfold mwV; rw [hs]; rfl⟩
    have HS := hid hs
    clear hs
    go_enter Try.func55, Try.ntmps55
    go_wp2_with (go_at_call 18; refine (implStock_eq _ len cap c _ _ h HR.out HZ.out HS.out).mono ?_; rintro e w1 ⟨rfl, b1⟩; have HB1 := hid b1; clear b1)
    go_returns
    rw [HM.out.1, HM.out.2]
    first | exact ⟨_, _, rfl, .inl rfl, HB1.out.alloc HB1.out.size _⟩ | exact ⟨_, ⟨_, rfl⟩, .inl rfl, HB1.out.alloc HB1.out.size _⟩
  have hsp := stB_p hs
  have hn100 := hsp.1.1
  have HDI := hid hsp.2
  have HCN := hid (ceN_of hsp.1)
  obtain ⟨TV, hTV⟩ : ∃ TV, mvT len c at_ p q = TV := ⟨_, rfl⟩
  have HM : Hid (mwV len c at_ p q = TV ∧ (TV = 0 → mwM len c at_ p q = mvN len c at_ p q ∧ mwC len c at_ p q = mvC len c at_ p q) ∧ (TV ≠ 0 → mwM len c at_ p q = len ∧ mwC len c at_ p q = c)) := hid (by
    have e : mwV len c at_ p q = TV := by unfold mwV; rw [if_pos hs]; exact hTV
    refine ⟨e, fun h0 => ⟨?_, ?_⟩, fun h0 => ⟨?_, ?_⟩⟩
    · unfold mwM; rw [if_pos hs, if_pos (hTV.trans h0)]
    · unfold mwC; rw [if_pos (e.trans h0)]
    · unfold mwM; rw [if_pos hs, if_neg (by rw [hTV]; exact h0)]
    · unfold mwC; rw [if_neg (by rw [e]; exact h0)])
  have HTV := hid hTV
  have HS := hid hs
  have tokA : True := trivial
  clear hs hTV hsp
  by_cases h0 : TV = 0
  · subst h0
    go_enter Try.func55, Try.ntmps55
    go_wp2_with (first
      | (go_at_call 18; refine (implStock_eq _ len cap c _ _ h HR.out HZ.out HS.out).mono ?_; rintro e w1 ⟨rfl, b1⟩; have HB1 := hid b1; clear b1)
      | (go_at_call 105; clear tokA; refine (copyI_any a len cap c _ h (HR.out.below HB1.out)).mono ?_; rintro e w2 ⟨v2, rfl, o2, b2⟩; obtain ⟨ad2, cp2, rfl, hcp2, _⟩ := ownCE6_of o2; have HO2 := hid (row_lower o2 HB1.out.size); have HB2 := hid (bel_on HB1.out b2); clear o2 b2)
      | (go_at_call 71; refine (places_any _ len cap c _ h (HR.out.below HB2.out) HZ.out).mono ?_; rintro e w3 ⟨mb, rfl, m3, b3⟩; have HM3 := hid m3.out.1; have HO3 := hid (row_below HO2.out b3); have HB3 := hid (bel_on HB2.out b3); clear b3 m3)
      | (go_at_call 56; refine (clo_move ab pb qb _ mb _ cp2 len w.heap.size ad2 c at_ p q _ hn100 hcp2 HDI.out HZ.out hp HCN.out ((HX.out.1.below HB3.out HX.out.1.lt).alloc _) ((HX.out.2.1.below HB3.out HX.out.2.1.lt).alloc _) ((HX.out.2.2.below HB3.out HX.out.2.2.lt).alloc _) (CB.new _ _) (row_below HO3.out ((Below.refl _ _).alloc (Nat.le_refl _) _)) (HM3.out.below ((Below.refl _ _).alloc (Nat.le_refl _) _) HM3.out.lt) (by have := HB3.out.size; simp; omega) (by have := HB3.out.size; omega)).mono ?_; rintro e w4 ⟨rfl, r4, b4⟩; rw [HTV.out] at r4; rw [HTV.out]; have HB4 : Hid (Below w.heap.size w w4) := hid ((HB3.out.alloc HB3.out.size _).trans b4); obtain ⟨ad4, cp4, s4, o4⟩ := r4 rfl; have HO4 := hid o4; have y0 := s4.cell 0; clear r4 b4 o4))
    go_returns
    rw [HM.out.1, (HM.out.2.1 (by first | rfl | trivial)).1, (HM.out.2.1 (by first | rfl | trivial)).2]
    first | exact ⟨_, _, rfl, HO4.out, HB4.out⟩ | exact ⟨_, ⟨_, rfl⟩, HO4.out, HB4.out⟩
  · have hne : (TV != 0) = true := by simpa using h0
    have HNE := hid h0
    clear h0
    go_enter Try.func55, Try.ntmps55
    go_wp2_with (first
      | (go_at_call 18; refine (implStock_eq _ len cap c _ _ h HR.out HZ.out HS.out).mono ?_; rintro e w1 ⟨rfl, b1⟩; have HB1 := hid b1; clear b1)
      | (go_at_call 105; clear tokA; refine (copyI_any a len cap c _ h (HR.out.below HB1.out)).mono ?_; rintro e w2 ⟨v2, rfl, o2, b2⟩; obtain ⟨ad2, cp2, rfl, hcp2, _⟩ := ownCE6_of o2; have HO2 := hid (row_lower o2 HB1.out.size); have HB2 := hid (bel_on HB1.out b2); clear o2 b2)
      | (go_at_call 71; refine (places_any _ len cap c _ h (HR.out.below HB2.out) HZ.out).mono ?_; rintro e w3 ⟨mb, rfl, m3, b3⟩; have HM3 := hid m3.out.1; have HO3 := hid (row_below HO2.out b3); have HB3 := hid (bel_on HB2.out b3); clear b3 m3)
      | (go_at_call 56; refine (clo_move ab pb qb _ mb _ cp2 len w.heap.size ad2 c at_ p q _ hn100 hcp2 HDI.out HZ.out hp HCN.out ((HX.out.1.below HB3.out HX.out.1.lt).alloc _) ((HX.out.2.1.below HB3.out HX.out.2.1.lt).alloc _) ((HX.out.2.2.below HB3.out HX.out.2.2.lt).alloc _) (CB.new _ _) (row_below HO3.out ((Below.refl _ _).alloc (Nat.le_refl _) _)) (HM3.out.below ((Below.refl _ _).alloc (Nat.le_refl _) _) HM3.out.lt) (by have := HB3.out.size; simp; omega) (by have := HB3.out.size; omega)).mono ?_; rintro e w4 ⟨rfl, r4, b4⟩; rw [HTV.out] at r4; rw [HTV.out]; have HB4 : Hid (Below w.heap.size w w4) := hid ((HB3.out.alloc HB3.out.size _).trans b4); clear r4 b4)
      | (go_at_call 105; refine (copyI_any a len cap c _ h (HR.out.below HB4.out)).mono ?_; rintro e w5 ⟨v5, rfl, o5, b5⟩; obtain ⟨ad5, cp5, rfl, hcp5, o5⟩ := ownCE6_of o5; have HO5 := hid (o5.mono HB4.out.size); have HB5 := hid (bel_on HB4.out b5); clear o5 b5))
    go_returns
    rw [HM.out.1, (HM.out.2.2 HNE.out).1, (HM.out.2.2 HNE.out).2]
    first | exact ⟨_, _, rfl, HO5.out, HB5.out⟩ | exact ⟨_, ⟨_, rfl⟩, HO5.out, HB5.out⟩
theorem three_boxes (at_ : Int) (p : ByteArray) (q : Int) (w : World) : CB (((w.alloc (.cells #[.int .i64 at_] 3 (0, 0))).alloc (.cells #[.string p] 9 (0, 0))).alloc (.cells #[.int .i64 q] 3 (0, 0))) w.heap.size #[.int .i64 at_] 3 ∧ CB (((w.alloc (.cells #[.int .i64 at_] 3 (0, 0))).alloc (.cells #[.string p] 9 (0, 0))).alloc (.cells #[.int .i64 q] 3 (0, 0))) (w.heap.size + 1) #[.string p] 9 ∧ CB (((w.alloc (.cells #[.int .i64 at_] 3 (0, 0))).alloc (.cells #[.string p] 9 (0, 0))).alloc (.cells #[.int .i64 q] 3 (0, 0))) (w.heap.size + 1 + 1) #[.int .i64 q] 3 := by
  refine ⟨((CB.new _ _).alloc _).alloc _, ?_, ?_⟩
  · have : CB ((w.alloc (.cells #[.int .i64 at_] 3 (0, 0))).alloc (.cells #[.string p] 9 (0, 0))) (w.alloc (.cells #[.int .i64 at_] 3 (0, 0))).heap.size #[.string p] 9 := CB.new _ _
    have h2 := this.alloc (.cells #[.int .i64 q] 3 (0, 0))
    simpa using h2
  · have : CB (((w.alloc (.cells #[.int .i64 at_] 3 (0, 0))).alloc (.cells #[.string p] 9 (0, 0))).alloc (.cells #[.int .i64 q] 3 (0, 0))) ((w.alloc (.cells #[.int .i64 at_] 3 (0, 0))).alloc (.cells #[.string p] 9 (0, 0))).heap.size #[.int .i64 q] 3 := CB.new _ _
    simpa using this
theorem implMove_any (a : Addr) (len cap : Nat) (c : Nat → CE6) (at_ : Int) (p : ByteArray) (q : Int) (w : World) (h : (len : Int) ≤ 1048576) (hr : CEr w (some a) len c) (hz : CZ c) (hp : p.size ≤ maxLen) :
    Calls Try.prog 15 #[.slice (some a) len cap, .int .i64 at_, .string p, .int .i64 q] w fun e w' => ∃ ad cp, e = .returned (.tuple #[.slice ad (mwM len c at_ p q) cp, .int .i64 (mwV len c at_ p q)]) ∧ OwnCE6 w' w.heap.size ad (mwM len c at_ p q) (mwC len c at_ p q) ∧ Below w.heap.size w w' := by
  have HR := hid hr
  have HZ := hid hz
  have H3 := hid (three_boxes at_ p q w)
  clear hr hz
  go_enter Try.func15, Try.ntmps15
  go_wp2_with (go_at_call 55; refine (change_move _ _ _ a len cap c at_ p q _ h (((HR.out.alloc _).alloc _).alloc _) HZ.out hp H3.out).mono ?_; rintro e w1 ⟨ad1, cp1, rfl, o1, b1⟩; have HO1 := hid (o1.mono (l := w.heap.size) (by simp; omega)); have HB1 : Hid (Below w.heap.size w w1) := hid (bel_on ((((Below.refl _ _).alloc (Nat.le_refl _) _).alloc (by simp) _).alloc (by simp; omega) _) b1); clear o1 b1)
  go_returns
  exact ⟨_, _, rfl, HO1.out, HB1.out⟩
end Go.Proofs.Ytpmnnfjabppahaa
