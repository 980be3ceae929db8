/- Stock changed by the program: Hold, Ship. -/
import Derived.Test.YtpmnnfjabppahaaSb
namespace Go.Proofs.Ytpmnnfjabppahaa
open Go Go.ChangeShapes Go.WideShapes Go.ChangeAt Go.RowKit
set_option linter.unusedVariables false
set_option linter.unusedSimpArgs false


theorem clo_hold (xb sb cp n lo : Nat) (mv : Value) (ad : Option Addr) (c : Nat → CE6) (ar : Option Addr) (nr rcap : Nat) (pk : Nat → PK2) (TV : Int) (w : World) (hn : n ≤ 100) (hnr : (nr : Int) ≤ 1048576) (hcp : n ≤ cp) (hb : CeN n c) (hx : w.cell? ⟨xb, 0, none⟩ = some (.slice ar nr rcap)) (hS : CB w sb #[.slice ad n cp, mv] 134) (hO : OwnCE6 w lo ad n c) (hp : PKr w ar nr pk) (hpl : 0 < nr → ∀ k off, ar = some ⟨k, off, none⟩ → k < lo) (hlo : lo ≤ w.heap.size) (hTV : (if nr ≤ 100 then eaT false n c pk nr else 2) = TV) :
    Calls Try.prog 80 #[.pointer (some ⟨sb, 0, none⟩), .pointer (some ⟨xb, 0, none⟩)] w fun e w' => e = .returned (.int .i64 TV) ∧ (TV = 0 → CB w' sb #[.slice ad n cp, mv] 134 ∧ OwnCE6 w' lo ad n (eaS false c pk nr)) ∧ Below lo w w' := by
  have HP := hid hp
  have HS := hid hS
  have HO := hid hO
  have HB := hid hb
  have HPL := hid hpl
  have HTV := hid hTV
  clear hp hS hO hb hpl hTV
  go_enter Try.func80, Try.ntmps80
  go_wp2_with (go_at_call 81; refine (picked_hold sb cp n lo mv ad c ar nr rcap pk TV _ hn hnr hcp HB.out HS.out HO.out HP.out HPL.out hlo HTV.out).mono ?_; rintro e w1 ⟨rfl, r1, b1⟩; have HR1 := hid (And.intro r1 b1); clear r1 b1)
  go_returns
  exact ⟨rfl, HR1.out.1, HR1.out.2⟩
set_option maxRecDepth 20000 in
set_option maxHeartbeats 8000000 in
theorem change_hold (xb : Nat) (a : Addr) (len cap : Nat) (c : Nat → CE6) (ar : Option Addr) (nr rcap : Nat) (pk : Nat → PK2) (w : World) (h : (len : Int) ≤ 1048576) (hnr : (nr : Int) ≤ 1048576) (hr : CEr w (some a) len c) (hz : CZ c) (hx : w.cell? ⟨xb, 0, none⟩ = some (.slice ar nr rcap)) (hp : PKr w ar nr pk) (hpl : 0 < nr → ∀ k off, ar = some ⟨k, off, none⟩ → k < w.heap.size) :
    Calls Try.prog 55 #[.slice (some a) len cap, .func (.func 80) #[] #[.pointer (some ⟨xb, 0, none⟩)]] w fun e w' => ∃ ad cp, e = .returned (.tuple #[.slice ad (eaM len c) cp, .int .i64 (eaV false len c nr pk)]) ∧ OwnCE6 w' w.heap.size ad (eaM len c) (eaC false len c nr pk) ∧ Below w.heap.size w w' := by
  have HR := hid hr
  have HZ := hid hz
  have HP := hid hp
  have HPL := hid hpl
  have HXL : Hid (xb < w.heap.size) := hid (World.block_lt_of_cell? w ⟨xb, 0, none⟩ hx)
  have HX := hid hx
  clear hr hz hp hpl hx
  cases hs : stB len c
  · have HM : Hid (eaM len c = 0 ∧ eaV false len c nr pk = 1) := hid ⟨by unfold eaM; rw [hs]; rfl, by unfold eaV; rw [hs]; rfl⟩
    have HS := hid hs
    clear hs
    go_enter Try.func55, Try.ntmps55
    go_wp2_with (go_at_call 18; refine (implStock_eq _ len cap c _ _ h HR.out HZ.out HS.out).mono ?_; rintro e w1 ⟨rfl, b1⟩; have HB1 := hid b1; clear b1)
    go_returns
    rw [HM.out.1, HM.out.2]
    first | exact ⟨_, _, rfl, .inl rfl, HB1.out.alloc HB1.out.size _⟩ | exact ⟨_, ⟨_, rfl⟩, .inl rfl, HB1.out.alloc HB1.out.size _⟩
  have hsp := stB_p hs
  have hn100 := hsp.1.1
  have HCN := hid (ceN_of hsp.1)
  obtain ⟨TV, hTV⟩ : ∃ TV, (if nr ≤ 100 then eaT false len c pk nr else 2) = TV := ⟨_, rfl⟩
  have HM : Hid (eaM len c = len ∧ eaV false len c nr pk = TV ∧ (TV = 0 → eaC false len c nr pk = eaS false c pk nr) ∧ (TV ≠ 0 → eaC false len c nr pk = c)) := hid (by
    have e : eaV false len c nr pk = TV := by unfold eaV; rw [if_pos hs]; exact hTV
    refine ⟨by unfold eaM; rw [if_pos hs], e, fun h0 => ?_, fun h0 => ?_⟩
    · unfold eaC; rw [e, if_pos h0]
    · unfold eaC; rw [e, if_neg h0])
  have HTV := hid hTV
  have HS := hid hs
  have tokA : True := trivial
  clear hs hTV hsp
  have HPB : Hid (∀ W, Below w.heap.size w W → PKr W ar nr pk) := hid (fun W hW => HP.out.below hW)
  by_cases h0 : TV = 0
  · subst h0
    go_enter Try.func55, Try.ntmps55
    go_wp2_with (first
      | (go_at_call 18; refine (implStock_eq _ len cap c _ _ h HR.out HZ.out HS.out).mono ?_; rintro e w1 ⟨rfl, b1⟩; have HB1 := hid b1; clear b1)
      | (go_at_call 105; clear tokA; refine (copyI_any a len cap c _ h (HR.out.below HB1.out)).mono ?_; rintro e w2 ⟨v2, rfl, o2, b2⟩; obtain ⟨ad2, cp2, rfl, hcp2, o2⟩ := ownCE6_of o2; have HO2 := hid (o2.mono HB1.out.size); have HB2 := hid (bel_on HB1.out b2); clear o2 b2)
      | (go_at_call 71; refine (places_any _ len cap c _ h (HR.out.below HB2.out) HZ.out).mono ?_; rintro e w3 ⟨mb, rfl, _, b3⟩; have HO3 := hid (HO2.out.below b3); have HB3 := hid (bel_on HB2.out b3); have hx3 : w3.cell? ⟨xb, 0, none⟩ = some (.slice ar nr rcap) := (World.cell?_of_block (w := w) (HB3.out.block xb HXL.out)).trans HX.out; clear b3)
      | (go_at_call 80; refine (clo_hold xb _ cp2 len w.heap.size (.map (some mb)) ad2 c ar nr rcap pk 0 _ hn100 hnr hcp2 HCN.out (by first | exact (keep_cell ((Below.refl _ _).alloc (Nat.le_refl _) _) hx3)) (CB.new _ _) (HO3.out.below ((Below.refl _ _).alloc (Nat.le_refl _) _)) (HPB.out _ (HB3.out.alloc HB3.out.size _)) HPL.out (by have := HB3.out.size; simp; omega) HTV.out).mono ?_; rintro e w4 ⟨rfl, r4, b4⟩; have HB4 : Hid (Below w.heap.size w w4) := hid ((HB3.out.alloc HB3.out.size _).trans b4); obtain ⟨s4, o4⟩ := r4 rfl; have HO4 := hid o4; have y0 := s4.cell 0; clear r4 b4 o4))
    go_returns
    rw [HM.out.1, HM.out.2.1, HM.out.2.2.1 (by first | rfl | trivial)]
    first | exact ⟨_, _, rfl, HO4.out, HB4.out⟩ | exact ⟨_, ⟨_, rfl⟩, HO4.out, HB4.out⟩
  · have hne : (TV != 0) = true := by simpa using h0
    have HNE := hid h0
    clear h0
    go_enter Try.func55, Try.ntmps55
    go_wp2_with (first
      | (go_at_call 18; refine (implStock_eq _ len cap c _ _ h HR.out HZ.out HS.out).mono ?_; rintro e w1 ⟨rfl, b1⟩; have HB1 := hid b1; clear b1)
      | (go_at_call 105; clear tokA; refine (copyI_any a len cap c _ h (HR.out.below HB1.out)).mono ?_; rintro e w2 ⟨v2, rfl, o2, b2⟩; obtain ⟨ad2, cp2, rfl, hcp2, o2⟩ := ownCE6_of o2; have HO2 := hid (o2.mono HB1.out.size); have HB2 := hid (bel_on HB1.out b2); clear o2 b2)
      | (go_at_call 71; refine (places_any _ len cap c _ h (HR.out.below HB2.out) HZ.out).mono ?_; rintro e w3 ⟨mb, rfl, _, b3⟩; have HO3 := hid (HO2.out.below b3); have HB3 := hid (bel_on HB2.out b3); have hx3 : w3.cell? ⟨xb, 0, none⟩ = some (.slice ar nr rcap) := (World.cell?_of_block (w := w) (HB3.out.block xb HXL.out)).trans HX.out; clear b3)
      | (go_at_call 80; refine (clo_hold xb _ cp2 len w.heap.size (.map (some mb)) ad2 c ar nr rcap pk TV _ hn100 hnr hcp2 HCN.out (by first | exact (keep_cell ((Below.refl _ _).alloc (Nat.le_refl _) _) hx3)) (CB.new _ _) (HO3.out.below ((Below.refl _ _).alloc (Nat.le_refl _) _)) (HPB.out _ (HB3.out.alloc HB3.out.size _)) HPL.out (by have := HB3.out.size; simp; omega) HTV.out).mono ?_; rintro e w4 ⟨rfl, r4, b4⟩; have HB4 : Hid (Below w.heap.size w w4) := hid ((HB3.out.alloc HB3.out.size _).trans b4); clear r4 b4)
      | (go_at_call 105; refine (copyI_any a len cap c _ h (HR.out.below HB4.out)).mono ?_; rintro e w5 ⟨v5, rfl, o5, b5⟩; obtain ⟨ad5, cp5, rfl, hcp5, o5⟩ := ownCE6_of o5; have HO5 := hid (o5.mono HB4.out.size); have HB5 := hid (bel_on HB4.out b5); clear o5 b5))
    go_returns
    rw [HM.out.1, HM.out.2.1, HM.out.2.2.2 HNE.out]
    first | exact ⟨_, _, rfl, HO5.out, HB5.out⟩ | exact ⟨_, ⟨_, rfl⟩, HO5.out, HB5.out⟩
theorem implHold_any (a : Addr) (len cap : Nat) (c : Nat → CE6) (ar : Option Addr) (nr rcap : Nat) (pk : Nat → PK2) (w : World) (h : (len : Int) ≤ 1048576) (hnr : (nr : Int) ≤ 1048576) (hr : CEr w (some a) len c) (hz : CZ c) (hp : PKr w ar nr pk) :
    Calls Try.prog 23 #[.slice (some a) len cap, .slice ar nr rcap] w fun e w' => ∃ ad cp, e = .returned (.tuple #[.slice ad (eaM len c) cp, .int .i64 (eaV false len c nr pk)]) ∧ OwnCE6 w' w.heap.size ad (eaM len c) (eaC false len c nr pk) ∧ Below w.heap.size w w' := by
  have HR := hid hr
  have HZ := hid hz
  have HP := hid hp
  have HPL : Hid (0 < nr → ∀ k off, ar = some ⟨k, off, none⟩ → k < w.heap.size + 1) := hid (fun h0 k off e => by
    rcases hp with q | ⟨k2, off2, e2, hk, _⟩
    · omega
    · rw [e] at e2; cases e2; omega)
  clear hr hz hp
  go_enter Try.func23, Try.ntmps23
  go_wp2_with (go_at_call 55; refine (change_hold _ a len cap c ar nr rcap pk _ h hnr (HR.out.alloc _) HZ.out (by simp) (HP.out.alloc _) (fun h0 k off e => by have := HPL.out h0 k off e; simp; omega)).mono ?_; rintro e w1 ⟨ad1, cp1, rfl, o1, b1⟩; have HO1 := hid (o1.mono (l := w.heap.size) (by simp)); have HB1 : Hid (Below w.heap.size w w1) := hid (bel_on ((Below.refl _ _).alloc (Nat.le_refl _) _) b1); clear o1 b1)
  go_returns
  exact ⟨_, _, rfl, HO1.out, HB1.out⟩

theorem clo_ship (xb sb cp n lo : Nat) (mv : Value) (ad : Option Addr) (c : Nat → CE6) (ar : Option Addr) (nr rcap : Nat) (pk : Nat → PK2) (TV : Int) (w : World) (hn : n ≤ 100) (hnr : (nr : Int) ≤ 1048576) (hcp : n ≤ cp) (hb : CeN n c) (hx : w.cell? ⟨xb, 0, none⟩ = some (.slice ar nr rcap)) (hS : CB w sb #[.slice ad n cp, mv] 134) (hO : OwnCE6 w lo ad n c) (hp : PKr w ar nr pk) (hpl : 0 < nr → ∀ k off, ar = some ⟨k, off, none⟩ → k < lo) (hlo : lo ≤ w.heap.size) (hTV : (if nr ≤ 100 then eaT true n c pk nr else 2) = TV) :
    Calls Try.prog 83 #[.pointer (some ⟨sb, 0, none⟩), .pointer (some ⟨xb, 0, none⟩)] w fun e w' => e = .returned (.int .i64 TV) ∧ (TV = 0 → CB w' sb #[.slice ad n cp, mv] 134 ∧ OwnCE6 w' lo ad n (eaS true c pk nr)) ∧ Below lo w w' := by
  have HP := hid hp
  have HS := hid hS
  have HO := hid hO
  have HB := hid hb
  have HPL := hid hpl
  have HTV := hid hTV
  clear hp hS hO hb hpl hTV
  go_enter Try.func83, Try.ntmps83
  go_wp2_with (go_at_call 81; refine (picked_ship sb cp n lo mv ad c ar nr rcap pk TV _ hn hnr hcp HB.out HS.out HO.out HP.out HPL.out hlo HTV.out).mono ?_; rintro e w1 ⟨rfl, r1, b1⟩; have HR1 := hid (And.intro r1 b1); clear r1 b1)
  go_returns
  exact ⟨rfl, HR1.out.1, HR1.out.2⟩
set_option maxRecDepth 20000 in
set_option maxHeartbeats 8000000 in
theorem change_ship (xb : Nat) (a : Addr) (len cap : Nat) (c : Nat → CE6) (ar : Option Addr) (nr rcap : Nat) (pk : Nat → PK2) (w : World) (h : (len : Int) ≤ 1048576) (hnr : (nr : Int) ≤ 1048576) (hr : CEr w (some a) len c) (hz : CZ c) (hx : w.cell? ⟨xb, 0, none⟩ = some (.slice ar nr rcap)) (hp : PKr w ar nr pk) (hpl : 0 < nr → ∀ k off, ar = some ⟨k, off, none⟩ → k < w.heap.size) :
    Calls Try.prog 55 #[.slice (some a) len cap, .func (.func 83) #[] #[.pointer (some ⟨xb, 0, none⟩)]] w fun e w' => ∃ ad cp, e = .returned (.tuple #[.slice ad (eaM len c) cp, .int .i64 (eaV true len c nr pk)]) ∧ OwnCE6 w' w.heap.size ad (eaM len c) (eaC true len c nr pk) ∧ Below w.heap.size w w' := by
  have HR := hid hr
  have HZ := hid hz
  have HP := hid hp
  have HPL := hid hpl
  have HXL : Hid (xb < w.heap.size) := hid (World.block_lt_of_cell? w ⟨xb, 0, none⟩ hx)
  have HX := hid hx
  clear hr hz hp hpl hx
  cases hs : stB len c
  · have HM : Hid (eaM len c = 0 ∧ eaV true len c nr pk = 1) := hid ⟨by unfold eaM; rw [hs]; rfl, by unfold eaV; rw [hs]; rfl⟩
    have HS := hid hs
    clear hs
    go_enter Try.func55, Try.ntmps55
    go_wp2_with (go_at_call 18; refine (implStock_eq _ len cap c _ _ h HR.out HZ.out HS.out).mono ?_; rintro e w1 ⟨rfl, b1⟩; have HB1 := hid b1; clear b1)
    go_returns
    rw [HM.out.1, HM.out.2]
    first | exact ⟨_, _, rfl, .inl rfl, HB1.out.alloc HB1.out.size _⟩ | exact ⟨_, ⟨_, rfl⟩, .inl rfl, HB1.out.alloc HB1.out.size _⟩
  have hsp := stB_p hs
  have hn100 := hsp.1.1
  have HCN := hid (ceN_of hsp.1)
  obtain ⟨TV, hTV⟩ : ∃ TV, (if nr ≤ 100 then eaT true len c pk nr else 2) = TV := ⟨_, rfl⟩
  have HM : Hid (eaM len c = len ∧ eaV true len c nr pk = TV ∧ (TV = 0 → eaC true len c nr pk = eaS true c pk nr) ∧ (TV ≠ 0 → eaC true len c nr pk = c)) := hid (by
    have e : eaV true len c nr pk = TV := by unfold eaV; rw [if_pos hs]; exact hTV
    refine ⟨by unfold eaM; rw [if_pos hs], e, fun h0 => ?_, fun h0 => ?_⟩
    · unfold eaC; rw [e, if_pos h0]
    · unfold eaC; rw [e, if_neg h0])
  have HTV := hid hTV
  have HS := hid hs
  have tokA : True := trivial
  clear hs hTV hsp
  have HPB : Hid (∀ W, Below w.heap.size w W → PKr W ar nr pk) := hid (fun W hW => HP.out.below hW)
  by_cases h0 : TV = 0
  · subst h0
    go_enter Try.func55, Try.ntmps55
    go_wp2_with (first
      | (go_at_call 18; refine (implStock_eq _ len cap c _ _ h HR.out HZ.out HS.out).mono ?_; rintro e w1 ⟨rfl, b1⟩; have HB1 := hid b1; clear b1)
      | (go_at_call 105; clear tokA; refine (copyI_any a len cap c _ h (HR.out.below HB1.out)).mono ?_; rintro e w2 ⟨v2, rfl, o2, b2⟩; obtain ⟨ad2, cp2, rfl, hcp2, o2⟩ := ownCE6_of o2; have HO2 := hid (o2.mono HB1.out.size); have HB2 := hid (bel_on HB1.out b2); clear o2 b2)
      | (go_at_call 71; refine (places_any _ len cap c _ h (HR.out.below HB2.out) HZ.out).mono ?_; rintro e w3 ⟨mb, rfl, _, b3⟩; have HO3 := hid (HO2.out.below b3); have HB3 := hid (bel_on HB2.out b3); have hx3 : w3.cell? ⟨xb, 0, none⟩ = some (.slice ar nr rcap) := (World.cell?_of_block (w := w) (HB3.out.block xb HXL.out)).trans HX.out; clear b3)
      | (go_at_call 83; refine (clo_ship xb _ cp2 len w.heap.size (.map (some mb)) ad2 c ar nr rcap pk 0 _ hn100 hnr hcp2 HCN.out (by first | exact (keep_cell ((Below.refl _ _).alloc (Nat.le_refl _) _) hx3)) (CB.new _ _) (HO3.out.below ((Below.refl _ _).alloc (Nat.le_refl _) _)) (HPB.out _ (HB3.out.alloc HB3.out.size _)) HPL.out (by have := HB3.out.size; simp; omega) HTV.out).mono ?_; rintro e w4 ⟨rfl, r4, b4⟩; have HB4 : Hid (Below w.heap.size w w4) := hid ((HB3.out.alloc HB3.out.size _).trans b4); obtain ⟨s4, o4⟩ := r4 rfl; have HO4 := hid o4; have y0 := s4.cell 0; clear r4 b4 o4))
    go_returns
    rw [HM.out.1, HM.out.2.1, HM.out.2.2.1 (by first | rfl | trivial)]
    first | exact ⟨_, _, rfl, HO4.out, HB4.out⟩ | exact ⟨_, ⟨_, rfl⟩, HO4.out, HB4.out⟩
  · have hne : (TV != 0) = true := by simpa using h0
    have HNE := hid h0
    clear h0
    go_enter Try.func55, Try.ntmps55
    go_wp2_with (first
      | (go_at_call 18; refine (implStock_eq _ len cap c _ _ h HR.out HZ.out HS.out).mono ?_; rintro e w1 ⟨rfl, b1⟩; have HB1 := hid b1; clear b1)
      | (go_at_call 105; clear tokA; refine (copyI_any a len cap c _ h (HR.out.below HB1.out)).mono ?_; rintro e w2 ⟨v2, rfl, o2, b2⟩; obtain ⟨ad2, cp2, rfl, hcp2, o2⟩ := ownCE6_of o2; have HO2 := hid (o2.mono HB1.out.size); have HB2 := hid (bel_on HB1.out b2); clear o2 b2)
      | (go_at_call 71; refine (places_any _ len cap c _ h (HR.out.below HB2.out) HZ.out).mono ?_; rintro e w3 ⟨mb, rfl, _, b3⟩; have HO3 := hid (HO2.out.below b3); have HB3 := hid (bel_on HB2.out b3); have hx3 : w3.cell? ⟨xb, 0, none⟩ = some (.slice ar nr rcap) := (World.cell?_of_block (w := w) (HB3.out.block xb HXL.out)).trans HX.out; clear b3)
      | (go_at_call 83; refine (clo_ship xb _ cp2 len w.heap.size (.map (some mb)) ad2 c ar nr rcap pk TV _ hn100 hnr hcp2 HCN.out (by first | exact (keep_cell ((Below.refl _ _).alloc (Nat.le_refl _) _) hx3)) (CB.new _ _) (HO3.out.below ((Below.refl _ _).alloc (Nat.le_refl _) _)) (HPB.out _ (HB3.out.alloc HB3.out.size _)) HPL.out (by have := HB3.out.size; simp; omega) HTV.out).mono ?_; rintro e w4 ⟨rfl, r4, b4⟩; have HB4 : Hid (Below w.heap.size w w4) := hid ((HB3.out.alloc HB3.out.size _).trans b4); clear r4 b4)
      | (go_at_call 105; refine (copyI_any a len cap c _ h (HR.out.below HB4.out)).mono ?_; rintro e w5 ⟨v5, rfl, o5, b5⟩; obtain ⟨ad5, cp5, rfl, hcp5, o5⟩ := ownCE6_of o5; have HO5 := hid (o5.mono HB4.out.size); have HB5 := hid (bel_on HB4.out b5); clear o5 b5))
    go_returns
    rw [HM.out.1, HM.out.2.1, HM.out.2.2.2 HNE.out]
    first | exact ⟨_, _, rfl, HO5.out, HB5.out⟩ | exact ⟨_, ⟨_, rfl⟩, HO5.out, HB5.out⟩
theorem implShip_any (a : Addr) (len cap : Nat) (c : Nat → CE6) (ar : Option Addr) (nr rcap : Nat) (pk : Nat → PK2) (w : World) (h : (len : Int) ≤ 1048576) (hnr : (nr : Int) ≤ 1048576) (hr : CEr w (some a) len c) (hz : CZ c) (hp : PKr w ar nr pk) :
    Calls Try.prog 24 #[.slice (some a) len cap, .slice ar nr rcap] w fun e w' => ∃ ad cp, e = .returned (.tuple #[.slice ad (eaM len c) cp, .int .i64 (eaV true len c nr pk)]) ∧ OwnCE6 w' w.heap.size ad (eaM len c) (eaC true len c nr pk) ∧ Below w.heap.size w w' := by
  have HR := hid hr
  have HZ := hid hz
  have HP := hid hp
  have HPL : Hid (0 < nr → ∀ k off, ar = some ⟨k, off, none⟩ → k < w.heap.size + 1) := hid (fun h0 k off e => by
    rcases hp with q | ⟨k2, off2, e2, hk, _⟩
    · omega
    · rw [e] at e2; cases e2; omega)
  clear hr hz hp
  go_enter Try.func24, Try.ntmps24
  go_wp2_with (go_at_call 55; refine (change_ship _ a len cap c ar nr rcap pk _ h hnr (HR.out.alloc _) HZ.out (by simp) (HP.out.alloc _) (fun h0 k off e => by have := HPL.out h0 k off e; simp; omega)).mono ?_; rintro e w1 ⟨ad1, cp1, rfl, o1, b1⟩; have HO1 := hid (o1.mono (l := w.heap.size) (by simp)); have HB1 : Hid (Below w.heap.size w w1) := hid (bel_on ((Below.refl _ _).alloc (Nat.le_refl _) _) b1); clear o1 b1)
  go_returns
  exact ⟨_, _, rfl, HO1.out, HB1.out⟩

end Go.Proofs.Ytpmnnfjabppahaa
