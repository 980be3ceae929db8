/- A quantity received into a stock by the program. -/
import Derived.Test.YtpmnnfjabppahaaBb
namespace Go.Proofs.Ytpmnnfjabppahaa
open Go Go.ChangeShapes Go.WideShapes Go.ChangeAt Go.RowKit
set_option linter.unusedVariables false
set_option linter.unusedSimpArgs false

noncomputable def rcT (n : Nat) (c : Nat → CE6) (x : CE6) : Int := if ceB x = true ∧ x.hld = 0 then brT n c x else 2
noncomputable def rcV (n : Nat) (c : Nat → CE6) (x : CE6) : Int := if stB n c = true then rcT n c x else 1
noncomputable def rcM (n : Nat) (c : Nat → CE6) (x : CE6) : Nat := if stB n c = true then (if rcT n c x = 0 then brN n c x else n) else 0
noncomputable def rcC (n : Nat) (c : Nat → CE6) (x : CE6) : Nat → CE6 := if rcV n c x = 0 then brC n c x else c
theorem rcT_0 {n : Nat} {c : Nat → CE6} {x : CE6} (h : rcT n c x = 0) : brT n c x = 0 := by
  unfold rcT at h
  split at h
  · exact h
  · omega
set_option maxRecDepth 20000 in
set_option maxHeartbeats 8000000 in
theorem receive_any (sb mb s cp n lo : Nat) (ad : Option Addr) (c : Nat → CE6) (x : CE6) (w : World) (hn : n ≤ 100) (hcp : n ≤ cp) (hdis : DisP n c) (hxk : x.item.size ≤ maxLen ∧ x.place.size ≤ maxLen ∧ x.lot.size ≤ maxLen) (hce : CeN n c)
    (hS : CB w sb #[.slice ad n cp, .map (some mb)] 134) (hO : w.ownsRow lo 28 6 (.slice ad n cp) n (rowCE6 c n)) (hM : MK w mb s (plF c n)) (hlo : lo ≤ w.heap.size) (hsb : lo ≤ sb) :
    Calls Try.prog 102 #[.pointer (some ⟨sb, 0, none⟩), .agg #[.string x.item, .string x.place, .string x.lot, .int .i64 x.exp, .int .i64 x.qty, .int .i64 x.hld]] w fun e w' => e = .returned (.int .i64 (rcT n c x)) ∧ (rcT n c x = 0 → ∃ ad2 cp2, CB w' sb #[.slice ad2 (brN n c x) cp2, .map (some mb)] 134 ∧ OwnCE6 w' lo ad2 (brN n c x) (brC n c x)) ∧ Below lo w w' := by
  have HXK := hid hxk
  have HS := hid hS
  have HO := hid hO
  have HM := hid hM
  have HDI := hid hdis
  have HCE := hid hce
  clear hxk hS hO hM hdis hce
  cases hc : ceB x
  · have HV : Hid (rcT n c x = 2) := hid (by unfold rcT; rw [hc]; simp)
    have HC := hid hc
    clear hc
    go_enter Try.func102, Try.ntmps102
    go_wp2_with (go_at_call 124; refine (ceRight_eq x _ _ HXK.out.1 HXK.out.2.1 HXK.out.2.2 HC.out).mono ?_; rintro e w1 ⟨rfl, b1⟩; have HB1 : Hid (Below lo w w1) := hid (((Below.refl _ _).alloc hlo _).trans (b1.mono (by simp; omega))); clear b1)
    go_returns
    exact ⟨by rw [HV.out]; rfl, fun h => by rw [HV.out] at h; omega, HB1.out⟩
  have hcp0 := ceB_p hc
  by_cases hh : x.hld = 0
  · have HV : Hid (rcT n c x = brT n c x) := hid (by unfold rcT; rw [if_pos ⟨hc, hh⟩])
    have hhb : (x.hld != 0) = false := by simp [hh]
    have HC := hid hc
    have HQ := hid hcp0.2.2.2.2.1
    clear hc hh hcp0
    go_enter Try.func102, Try.ntmps102
    go_wp2_with (first
      | (go_at_call 124; refine (ceRight_eq x _ _ HXK.out.1 HXK.out.2.1 HXK.out.2.2 HC.out).mono ?_; rintro e w1 ⟨rfl, b1⟩; have HB1 : Hid (Below lo w w1 ∧ CB w1 w.heap.size #[.string x.item, .string x.place, .string x.lot, .int .i64 x.exp, .int .i64 x.qty, .int .i64 x.hld] 28 ∧ CB w1 sb #[.slice ad n cp, .map (some mb)] 134 ∧ w1.ownsRow lo 28 6 (.slice ad n cp) n (rowCE6 c n) ∧ MK w1 mb s (plF c n) ∧ lo ≤ w1.heap.size) := hid ⟨((Below.refl _ _).alloc hlo _).trans (b1.mono (by simp; omega)), (CB.new _ _).below b1 (CB.new _ _).lt, (HS.out.alloc _).below b1 (HS.out.alloc _).lt, row_below (row_below HO.out ((Below.refl _ _).alloc (Nat.le_refl _) _)) b1, (HM.out.below ((Below.refl _ _).alloc (Nat.le_refl _) _) HM.out.lt).below b1 (by have := HM.out.lt; simp; omega), by have := b1.size; simp at this; omega⟩; have x0 : w1.cell? ⟨w.heap.size, 0, none⟩ = some (.string x.item) := HB1.out.2.1.cell 0; have x1 : w1.cell? ⟨w.heap.size, 1, none⟩ = some (.string x.place) := HB1.out.2.1.cell 1; have x2 : w1.cell? ⟨w.heap.size, 2, none⟩ = some (.string x.lot) := HB1.out.2.1.cell 2; have x3 : w1.cell? ⟨w.heap.size, 3, none⟩ = some (.int .i64 x.exp) := HB1.out.2.1.cell 3; have x4 : w1.cell? ⟨w.heap.size, 4, none⟩ = some (.int .i64 x.qty) := HB1.out.2.1.cell 4; have x5 : w1.cell? ⟨w.heap.size, 5, none⟩ = some (.int .i64 x.hld) := HB1.out.2.1.cell 5; clear b1)
      | (go_at_call 108; refine (bring_any sb mb s cp n lo ad c c x _ hn hcp HDI.out (fun _ _ => rfl) HXK.out HCE.out HQ.out HB1.out.2.2.1 HB1.out.2.2.2.1 HB1.out.2.2.2.2.1 HB1.out.2.2.2.2.2 hsb).mono ?_; rintro e w2 ⟨rfl, r2, b2⟩; have HR2 := hid (And.intro r2 (HB1.out.1.trans b2)); clear r2 b2))
    go_returns
    rw [HV.out]
    exact ⟨rfl, HR2.out.1, HR2.out.2⟩
  · have HV : Hid (rcT n c x = 2) := hid (by unfold rcT; rw [if_neg (by intro h; exact hh h.2)])
    have hhb : (x.hld != 0) = true := by simpa using hh
    have HC := hid hc
    clear hc hh hcp0
    go_enter Try.func102, Try.ntmps102
    go_wp2_with (go_at_call 124; refine (ceRight_eq x _ _ HXK.out.1 HXK.out.2.1 HXK.out.2.2 HC.out).mono ?_; rintro e w1 ⟨rfl, b1⟩; have HB1 : Hid (Below lo w w1 ∧ CB w1 w.heap.size #[.string x.item, .string x.place, .string x.lot, .int .i64 x.exp, .int .i64 x.qty, .int .i64 x.hld] 28) := hid ⟨((Below.refl _ _).alloc hlo _).trans (b1.mono (by simp; omega)), (CB.new _ _).below b1 (CB.new _ _).lt⟩; have x0 : w1.cell? ⟨w.heap.size, 0, none⟩ = some (.string x.item) := HB1.out.2.cell 0; have x1 : w1.cell? ⟨w.heap.size, 1, none⟩ = some (.string x.place) := HB1.out.2.cell 1; have x2 : w1.cell? ⟨w.heap.size, 2, none⟩ = some (.string x.lot) := HB1.out.2.cell 2; have x3 : w1.cell? ⟨w.heap.size, 3, none⟩ = some (.int .i64 x.exp) := HB1.out.2.cell 3; have x4 : w1.cell? ⟨w.heap.size, 4, none⟩ = some (.int .i64 x.qty) := HB1.out.2.cell 4; have x5 : w1.cell? ⟨w.heap.size, 5, none⟩ = some (.int .i64 x.hld) := HB1.out.2.cell 5; clear b1)
    go_returns
    exact ⟨by rw [HV.out]; rfl, fun h => by rw [HV.out] at h; omega, HB1.out.1⟩
theorem clo_recv (xb sb mb s cp n lo : Nat) (ad : Option Addr) (c : Nat → CE6) (x : CE6) (w : World) (hn : n ≤ 100) (hcp : n ≤ cp) (hdis : DisP n c) (hxk : x.item.size ≤ maxLen ∧ x.place.size ≤ maxLen ∧ x.lot.size ≤ maxLen) (hce : CeN n c) (hx : CB w xb #[.string x.item, .string x.place, .string x.lot, .int .i64 x.exp, .int .i64 x.qty, .int .i64 x.hld] 28)
    (hS : CB w sb #[.slice ad n cp, .map (some mb)] 134) (hO : w.ownsRow lo 28 6 (.slice ad n cp) n (rowCE6 c n)) (hM : MK w mb s (plF c n)) (hlo : lo ≤ w.heap.size) (hsb : lo ≤ sb) :
    Calls Try.prog 101 #[.pointer (some ⟨sb, 0, none⟩), .pointer (some ⟨xb, 0, none⟩)] w fun e w' => e = .returned (.int .i64 (rcT n c x)) ∧ (rcT n c x = 0 → ∃ ad2 cp2, CB w' sb #[.slice ad2 (brN n c x) cp2, .map (some mb)] 134 ∧ OwnCE6 w' lo ad2 (brN n c x) (brC n c x)) ∧ Below lo w w' := by
  have HS := hid hS
  have HO := hid hO
  have HM := hid hM
  have HDI := hid hdis
  have HCE := hid hce
  have x0 : w.cell? ⟨xb, 0, none⟩ = some (.string x.item) := hx.cell 0
  have x1 : w.cell? ⟨xb, 1, none⟩ = some (.string x.place) := hx.cell 1
  have x2 : w.cell? ⟨xb, 2, none⟩ = some (.string x.lot) := hx.cell 2
  have x3 : w.cell? ⟨xb, 3, none⟩ = some (.int .i64 x.exp) := hx.cell 3
  have x4 : w.cell? ⟨xb, 4, none⟩ = some (.int .i64 x.qty) := hx.cell 4
  have x5 : w.cell? ⟨xb, 5, none⟩ = some (.int .i64 x.hld) := hx.cell 5
  clear hS hO hM hdis hce hx
  go_enter Try.func101, Try.ntmps101
  go_wp2_with (go_at_call 102; refine (receive_any sb mb s cp n lo ad c x _ hn hcp HDI.out hxk HCE.out HS.out HO.out HM.out hlo hsb).mono ?_; rintro e w1 ⟨rfl, r1, b1⟩; have HR1 := hid (And.intro r1 b1); clear r1 b1)
  go_returns
  exact ⟨rfl, HR1.out.1, HR1.out.2⟩
set_option maxRecDepth 20000 in
set_option maxHeartbeats 8000000 in
theorem change_recv (xb : Nat) (a : Addr) (len cap : Nat) (c : Nat → CE6) (x : CE6) (w : World) (h : (len : Int) ≤ 1048576) (hr : CEr w (some a) len c) (hz : CZ c) (hxk : x.item.size ≤ maxLen ∧ x.place.size ≤ maxLen ∧ x.lot.size ≤ maxLen) (hx : CB w xb #[.string x.item, .string x.place, .string x.lot, .int .i64 x.exp, .int .i64 x.qty, .int .i64 x.hld] 28) :
    Calls Try.prog 55 #[.slice (some a) len cap, .func (.func 101) #[] #[.pointer (some ⟨xb, 0, none⟩)]] w fun e w' => ∃ ad cp, e = .returned (.tuple #[.slice ad (rcM len c x) cp, .int .i64 (rcV len c x)]) ∧ OwnCE6 w' w.heap.size ad (rcM len c x) (rcC len c x) ∧ Below w.heap.size w w' := by
  have HR := hid hr
  have HZ := hid hz
  have HX := hid hx
  clear hr hz hx
  cases hs : stB len c
  · have HM : Hid (rcM len c x = 0 ∧ rcV len c x = 1) := hid ⟨by unfold rcM; rw [hs]; rfl, by unfold rcV; rw [hs]; rfl⟩
    have HS := hid hs
    clear hs
    go_enter Try.func55, Try.ntmps55
    go_wp2_with (go_at_call 18; refine (implStock_eq _ len cap c _ _ h HR.out HZ.out HS.out).mono ?_; rintro e w1 ⟨rfl, b1⟩; have HB1 := hid b1; clear b1)
    go_returns
    rw [HM.out.1, HM.out.2]
    first | exact ⟨_, _, rfl, .inl rfl, HB1.out.alloc HB1.out.size _⟩ | exact ⟨_, ⟨_, rfl⟩, .inl rfl, HB1.out.alloc HB1.out.size _⟩
  have hsp := stB_p hs
  have hn100 := hsp.1.1
  have HDI := hid hsp.2
  have HCN := hid (ceN_of hsp.1)
  obtain ⟨TV, hTV⟩ : ∃ TV, rcT len c x = TV := ⟨_, rfl⟩
  have HM : Hid (rcV len c x = TV ∧ (TV = 0 → rcM len c x = brN len c x ∧ rcC len c x = brC len c x) ∧ (TV ≠ 0 → rcM len c x = len ∧ rcC len c x = c)) := hid (by
    have e : rcV len c x = TV := by unfold rcV; rw [if_pos hs]; exact hTV
    refine ⟨e, fun h0 => ⟨?_, ?_⟩, fun h0 => ⟨?_, ?_⟩⟩
    · unfold rcM; rw [if_pos hs, if_pos (hTV.trans h0)]
    · unfold rcC; rw [if_pos (e.trans h0)]
    · unfold rcM; rw [if_pos hs, if_neg (by rw [hTV]; exact h0)]
    · unfold rcC; rw [if_neg (by rw [e]; exact h0)])
  have HTV := hid hTV
  have HS := hid hs
  have tokA : True := trivial
  clear hs hTV hsp
  by_cases h0 : TV = 0
  · subst h0
    go_enter Try.func55, Try.ntmps55
    go_wp2_with (first
      | (go_at_call 18; refine (implStock_eq _ len cap c _ _ h HR.out HZ.out HS.out).mono ?_; rintro e w1 ⟨rfl, b1⟩; have HB1 := hid b1; clear b1)
      | (go_at_call 105; clear tokA; refine (copyI_any a len cap c _ h (HR.out.below HB1.out)).mono ?_; rintro e w2 ⟨v2, rfl, o2, b2⟩; obtain ⟨ad2, cp2, rfl, hcp2, _⟩ := ownCE6_of o2; have HO2 := hid (row_lower o2 HB1.out.size); have HB2 := hid (bel_on HB1.out b2); clear o2 b2)
      | (go_at_call 71; refine (places_any _ len cap c _ h (HR.out.below HB2.out) HZ.out).mono ?_; rintro e w3 ⟨mb, rfl, m3, b3⟩; have HM3 := hid m3.out.1; have HO3 := hid (row_below HO2.out b3); have HB3 := hid (bel_on HB2.out b3); clear b3 m3)
      | (go_at_call 101; refine (clo_recv xb _ mb _ cp2 len w.heap.size ad2 c x _ hn100 hcp2 HDI.out hxk HCN.out ((HX.out.below HB3.out HX.out.lt).alloc _) (CB.new _ _) (row_below HO3.out ((Below.refl _ _).alloc (Nat.le_refl _) _)) (HM3.out.below ((Below.refl _ _).alloc (Nat.le_refl _) _) HM3.out.lt) (by have := HB3.out.size; simp; omega) (by have := HB3.out.size; omega)).mono ?_; rintro e w4 ⟨rfl, r4, b4⟩; rw [HTV.out] at r4; rw [HTV.out]; have HB4 : Hid (Below w.heap.size w w4) := hid ((HB3.out.alloc HB3.out.size _).trans b4); obtain ⟨ad4, cp4, s4, o4⟩ := r4 rfl; have HO4 := hid o4; have y0 := s4.cell 0; clear r4 b4 o4))
    go_returns
    rw [HM.out.1, (HM.out.2.1 (by first | rfl | trivial)).1, (HM.out.2.1 (by first | rfl | trivial)).2]
    first | exact ⟨_, _, rfl, HO4.out, HB4.out⟩ | exact ⟨_, ⟨_, rfl⟩, HO4.out, HB4.out⟩
  · have hne : (TV != 0) = true := by simpa using h0
    have HNE := hid h0
    clear h0
    go_enter Try.func55, Try.ntmps55
    go_wp2_with (first
      | (go_at_call 18; refine (implStock_eq _ len cap c _ _ h HR.out HZ.out HS.out).mono ?_; rintro e w1 ⟨rfl, b1⟩; have HB1 := hid b1; clear b1)
      | (go_at_call 105; clear tokA; refine (copyI_any a len cap c _ h (HR.out.below HB1.out)).mono ?_; rintro e w2 ⟨v2, rfl, o2, b2⟩; obtain ⟨ad2, cp2, rfl, hcp2, _⟩ := ownCE6_of o2; have HO2 := hid (row_lower o2 HB1.out.size); have HB2 := hid (bel_on HB1.out b2); clear o2 b2)
      | (go_at_call 71; refine (places_any _ len cap c _ h (HR.out.below HB2.out) HZ.out).mono ?_; rintro e w3 ⟨mb, rfl, m3, b3⟩; have HM3 := hid m3.out.1; have HO3 := hid (row_below HO2.out b3); have HB3 := hid (bel_on HB2.out b3); clear b3 m3)
      | (go_at_call 101; refine (clo_recv xb _ mb _ cp2 len w.heap.size ad2 c x _ hn100 hcp2 HDI.out hxk HCN.out ((HX.out.below HB3.out HX.out.lt).alloc _) (CB.new _ _) (row_below HO3.out ((Below.refl _ _).alloc (Nat.le_refl _) _)) (HM3.out.below ((Below.refl _ _).alloc (Nat.le_refl _) _) HM3.out.lt) (by have := HB3.out.size; simp; omega) (by have := HB3.out.size; omega)).mono ?_; rintro e w4 ⟨rfl, r4, b4⟩; rw [HTV.out] at r4; rw [HTV.out]; have HB4 : Hid (Below w.heap.size w w4) := hid ((HB3.out.alloc HB3.out.size _).trans b4); clear r4 b4)
      | (go_at_call 105; refine (copyI_any a len cap c _ h (HR.out.below HB4.out)).mono ?_; rintro e w5 ⟨v5, rfl, o5, b5⟩; obtain ⟨ad5, cp5, rfl, hcp5, o5⟩ := ownCE6_of o5; have HO5 := hid (o5.mono HB4.out.size); have HB5 := hid (bel_on HB4.out b5); clear o5 b5))
    go_returns
    rw [HM.out.1, (HM.out.2.2 HNE.out).1, (HM.out.2.2 HNE.out).2]
    first | exact ⟨_, _, rfl, HO5.out, HB5.out⟩ | exact ⟨_, ⟨_, rfl⟩, HO5.out, HB5.out⟩
theorem implReceive_any (a : Addr) (len cap : Nat) (c : Nat → CE6) (x : CE6) (w : World) (h : (len : Int) ≤ 1048576) (hr : CEr w (some a) len c) (hz : CZ c) (hxk : x.item.size ≤ maxLen ∧ x.place.size ≤ maxLen ∧ x.lot.size ≤ maxLen) :
    Calls Try.prog 43 #[.slice (some a) len cap, .agg #[.string x.item, .string x.place, .string x.lot, .int .i64 x.exp, .int .i64 x.qty, .int .i64 x.hld]] w fun e w' => ∃ ad cp, e = .returned (.tuple #[.slice ad (rcM len c x) cp, .int .i64 (rcV len c x)]) ∧ OwnCE6 w' w.heap.size ad (rcM len c x) (rcC len c x) ∧ Below w.heap.size w w' := by
  have HR := hid hr
  have HZ := hid hz
  clear hr hz
  go_enter Try.func43, Try.ntmps43
  go_wp2_with (go_at_call 55; refine (change_recv _ a len cap c x _ h (HR.out.alloc _) HZ.out hxk (CB.new _ _)).mono ?_; rintro e w1 ⟨ad1, cp1, rfl, o1, b1⟩; have HO1 := hid (o1.mono (l := w.heap.size) (by simp)); have HB1 : Hid (Below w.heap.size w w1) := hid (bel_on ((Below.refl _ _).alloc (Nat.le_refl _) _) b1); clear o1 b1)
  go_returns
  exact ⟨_, _, rfl, HO1.out, HB1.out⟩

end Go.Proofs.Ytpmnnfjabppahaa
