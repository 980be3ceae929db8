/- The model's LotsOf: what is refused, and the least lots. -/
import Derived.Test.YtmbdeafpfdeigaaQn
namespace Go.Proofs.Ytmbdeafpfdeigaa
open Go Go.ChangeShapes Go.WideShapes Go.ChangeAt Go.RowKit
set_option linter.unusedVariables false
set_option linter.unusedSimpArgs false

set_option maxRecDepth 20000 in
set_option maxHeartbeats 4000000 in
theorem specLotsF1_any (ki sz su ho : Int) (ad : Option Addr) (n cap : Nat) (m : Nat → Int) (w : World) (hn : (n : Int) ≤ 1048576) (hr : IR w ad n m) (hl : ltB ⟨ki, sz, su, ho⟩ = false) :
    Calls Try.prog 34 #[.agg #[.int .i64 ki, .int .i64 sz, .int .i64 su, .int .i64 ho], .slice ad n cap] w fun e w' => ∃ a cp, e = .returned (.tuple #[.slice a (loM ⟨ki, sz, su, ho⟩ m n) cp, .bool (loB ⟨ki, sz, su, ho⟩ m n)]) ∧ OwnI w' w.heap.size a (loM ⟨ki, sz, su, ho⟩ m n) (ordF ⟨ki, sz, su, ho⟩ m n) ∧ Below w.heap.size w w' := by
  have HL : Hid (ltB ⟨ki, sz, su, ho⟩ = false) := hl
  have hlo : loB ⟨ki, sz, su, ho⟩ m n = false := by unfold loB; rw [hl]; rfl
  rw [lo_f hlo, hlo]
  have HBL : Hid (Below w.heap.size w ((w.alloc (.cells #[.int .i64 ki, .int .i64 sz, .int .i64 su, .int .i64 ho] 48 (0, 0))).alloc (.cells #[] 3 (0, 0)))) := ((Below.refl _ _).alloc (Nat.le_refl _) _).alloc (by simp) _
  have HC : Hid (CB ((w.alloc (.cells #[.int .i64 ki, .int .i64 sz, .int .i64 su, .int .i64 ho] 48 (0, 0))).alloc (.cells #[] 3 (0, 0))) w.heap.size #[.int .i64 ki, .int .i64 sz, .int .i64 su, .int .i64 ho] 48) := (CB.new _ _).alloc _
  clear hr hl hlo
  go_enter Try.func34, Try.ntmps34
  go_wp2_with (go_at_call 81; refine (l18Lots_eq ⟨ki, sz, su, ho⟩ _ _ HL.out).mono ?_; rintro e w1 ⟨rfl, b1⟩; have HB1 : Hid (Below w.heap.size w w1) := hid (bel_on HBL.out b1); have HC1 := hid (HC.out.below b1 HC.out.lt); clear b1)
  go_returns
  exact ⟨_, _, rfl, .inl rfl, HB1.out⟩
set_option maxRecDepth 20000 in
set_option maxHeartbeats 4000000 in
theorem specLotsF2_any (ki sz su ho : Int) (ad : Option Addr) (n cap : Nat) (m : Nat → Int) (w : World) (hn : (n : Int) ≤ 1048576) (hr : IR w ad n m) (hl : ltB ⟨ki, sz, su, ho⟩ = true) (hN : nqB m n = false) :
    Calls Try.prog 34 #[.agg #[.int .i64 ki, .int .i64 sz, .int .i64 su, .int .i64 ho], .slice ad n cap] w fun e w' => ∃ a cp, e = .returned (.tuple #[.slice a (loM ⟨ki, sz, su, ho⟩ m n) cp, .bool (loB ⟨ki, sz, su, ho⟩ m n)]) ∧ OwnI w' w.heap.size a (loM ⟨ki, sz, su, ho⟩ m n) (ordF ⟨ki, sz, su, ho⟩ m n) ∧ Below w.heap.size w w' := by
  have HL : Hid (ltB ⟨ki, sz, su, ho⟩ = true) := hl
  have HN : Hid (nqB m n = false) := hN
  have HR : Hid (IR w ad n m) := hr
  have hlo : loB ⟨ki, sz, su, ho⟩ m n = false := by unfold loB; rw [hl, hN]; rfl
  rw [lo_f hlo, hlo]
  have HBL : Hid (Below w.heap.size w ((w.alloc (.cells #[.int .i64 ki, .int .i64 sz, .int .i64 su, .int .i64 ho] 48 (0, 0))).alloc (.cells #[] 3 (0, 0)))) := ((Below.refl _ _).alloc (Nat.le_refl _) _).alloc (by simp) _
  have HC : Hid (CB ((w.alloc (.cells #[.int .i64 ki, .int .i64 sz, .int .i64 su, .int .i64 ho] 48 (0, 0))).alloc (.cells #[] 3 (0, 0))) w.heap.size #[.int .i64 ki, .int .i64 sz, .int .i64 su, .int .i64 ho] 48) := (CB.new _ _).alloc _
  clear hr hl hlo hN
  have tkA := trivial
  go_enter Try.func34, Try.ntmps34
  go_wp2_with (first | (go_at_call 81; refine (l18Lots_eq ⟨ki, sz, su, ho⟩ _ _ HL.out).mono ?_; rintro e w1 ⟨rfl, b1⟩; have HB1 : Hid (Below w.heap.size w w1) := hid (bel_on HBL.out b1); have HC1 := hid (HC.out.below b1 HC.out.lt); clear b1) | (go_at_call 82; clear tkA; refine (l18List_eq _ n cap m _ _ hn (HR.out.below HB1.out) HN.out).mono ?_; rintro e w2 ⟨rfl, b2⟩; have HB2 : Hid (Below w.heap.size w w2) := hid (bel_on HB1.out b2); clear b2))
  go_returns
  exact ⟨_, _, rfl, .inl rfl, HB2.out⟩
set_option maxRecDepth 20000 in
set_option maxHeartbeats 4000000 in
theorem specLots4_any (sz su ho : Int) (ad : Option Addr) (n cap : Nat) (m : Nat → Int) (w : World) (hn : (n : Int) ≤ 1048576) (hr : IR w ad n m) (hl : ltB ⟨4, sz, su, ho⟩ = true) (hN : nqB m n = true) (hL : ∀ W, IR W ad n m → Calls Try.prog 84 #[.agg #[.int .i64 4, .int .i64 sz, .int .i64 su, .int .i64 ho], .slice ad n cap] W (OrP W n (orL su ho m n))) :
    Calls Try.prog 34 #[.agg #[.int .i64 4, .int .i64 sz, .int .i64 su, .int .i64 ho], .slice ad n cap] w fun e w' => ∃ a cp, e = .returned (.tuple #[.slice a (loM ⟨4, sz, su, ho⟩ m n) cp, .bool (loB ⟨4, sz, su, ho⟩ m n)]) ∧ OwnI w' w.heap.size a (loM ⟨4, sz, su, ho⟩ m n) (ordF ⟨4, sz, su, ho⟩ m n) ∧ Below w.heap.size w w' := by
  have HL : Hid (ltB ⟨4, sz, su, ho⟩ = true) := hl
  have HN : Hid (nqB m n = true) := hN
  have HR : Hid (IR w ad n m) := hr
  have HLE := hid hL
  obtain ⟨hn0, hn40, hm⟩ := nqB_p hN
  have HLO : Hid (loB ⟨4, sz, su, ho⟩ m n = nqB (orL su ho m n) n) := hid (by
    unfold loB
    rw [hl, hN, show ordF ⟨4, sz, su, ho⟩ m n = orL su ho m n from rfl]
    unfold nqB
    rw [inB_y (by omega) (by omega)]; simp)
  have hmk := mkI n hn
  have hn1 : (0 : Int) < (n : Int) := by omega
  have HBL : Hid (Below w.heap.size w ((w.alloc (.cells #[.int .i64 4, .int .i64 sz, .int .i64 su, .int .i64 ho] 48 (0, 0))).alloc (.cells #[] 3 (0, 0)))) := ((Below.refl _ _).alloc (Nat.le_refl _) _).alloc (by simp) _
  have HC : Hid (CB ((w.alloc (.cells #[.int .i64 4, .int .i64 sz, .int .i64 su, .int .i64 ho] 48 (0, 0))).alloc (.cells #[] 3 (0, 0))) w.heap.size #[.int .i64 4, .int .i64 sz, .int .i64 su, .int .i64 ho] 48) := (CB.new _ _).alloc _
  clear hr hl hN hL hm
  have tkA := trivial
  obtain ⟨TV, hTV⟩ : ∃ v, nqB (orL su ho m n) n = v := ⟨_, rfl⟩
  rw [hTV] at HLO
  have HTV : Hid (nqB (orL su ho m n) n = TV) := hTV
  clear hTV
  have hlm : loM ⟨4, sz, su, ho⟩ m n = if TV = true then n else 0 := by unfold loM; rw [HLO.out]
  rw [HLO.out, hlm]
  clear hlm
  go_enter Try.func34, Try.ntmps34
  go_wp2_with (first | (go_at_call 81; refine (l18Lots_eq ⟨4, sz, su, ho⟩ _ _ HL.out).mono ?_; rintro e w1 ⟨rfl, b1⟩; have HB1 : Hid (Below w.heap.size w w1) := hid (bel_on HBL.out b1); have HC1 := hid (HC.out.below b1 HC.out.lt); clear b1) | (go_at_call 82; clear tkA; refine (l18List_eq _ n cap m _ _ hn (HR.out.below HB1.out) HN.out).mono ?_; rintro e w2 ⟨rfl, b2⟩; have HB2 : Hid (Below w.heap.size w w2) := hid (bel_on HB1.out b2); have HC2 := hid (HC1.out.below b2 HC1.out.lt); have k0 : w2.cell? ⟨w.heap.size, 0, none⟩ = some (.int .i64 4) := (HC2.out.cell 0).trans rfl; have k1 : w2.cell? ⟨w.heap.size, 1, none⟩ = some (.int .i64 sz) := (HC2.out.cell 1).trans rfl; have k2 : w2.cell? ⟨w.heap.size, 2, none⟩ = some (.int .i64 su) := (HC2.out.cell 2).trans rfl; have k3 : w2.cell? ⟨w.heap.size, 3, none⟩ = some (.int .i64 ho) := (HC2.out.cell 3).trans rfl; clear b2))
  generalize hWV : w2.alloc (.cells (zeros n) 3) = WV
  have HBV : Hid (Below w.heap.size w WV) := hid (by rw [← hWV]; exact HB2.out.alloc HB2.out.size _)
  have k0 : WV.cell? ⟨w.heap.size, 0, none⟩ = some (.int .i64 4) := by rw [← hWV]; exact ((HC2.out.alloc _).cell 0).trans rfl
  have k1 : WV.cell? ⟨w.heap.size, 1, none⟩ = some (.int .i64 sz) := by rw [← hWV]; exact ((HC2.out.alloc _).cell 1).trans rfl
  have k2 : WV.cell? ⟨w.heap.size, 2, none⟩ = some (.int .i64 su) := by rw [← hWV]; exact ((HC2.out.alloc _).cell 2).trans rfl
  have k3 : WV.cell? ⟨w.heap.size, 3, none⟩ = some (.int .i64 ho) := by rw [← hWV]; exact ((HC2.out.alloc _).cell 3).trans rfl
  clear hWV HB1 HB2 HC1 HC2 hmk
  go_loopw [8] (fun u wr => u = .int .i64 0 ∧ wr = WV) (fun u _ => 0)
  case atStart => exact ⟨rfl, by first | rfl | trivial⟩
  case round =>
    obtain ⟨rfl, rfl⟩ := hrel
    cases TV
    · have tkL := trivial
      go_wp2_with (first
        | (go_at_call 84; clear tkL; refine (HLE.out _ (HR.out.below HBV.out)).mono ?_; rintro e w6 ⟨a6, cp6, rfl, ho6, hb6⟩; have HO6 : Hid (OwnI w6 w.heap.size a6 n (orL su ho m n)) := hid (ho6.mono HBV.out.size); have HB6 : Hid (Below w.heap.size w w6) := hid (bel_on HBV.out hb6); clear ho6 hb6)
        | (go_at_call 82; refine (l18List_eq _ n cp6 (orL su ho m n) _ _ hn HO6.out.row HTV.out).mono ?_; rintro e w7 ⟨rfl, b7⟩; have HB7 : Hid (Below w.heap.size w w7) := hid (bel_on HB6.out b7); have HO7 := hid (HO6.out.below b7); clear b7))
      go_returns
      exact ⟨_, ⟨_, rfl⟩, .inl rfl, HB7.out⟩
    · have tkL := trivial
      go_wp2_with (first
        | (go_at_call 84; clear tkL; refine (HLE.out _ (HR.out.below HBV.out)).mono ?_; rintro e w6 ⟨a6, cp6, rfl, ho6, hb6⟩; have HO6 : Hid (OwnI w6 w.heap.size a6 n (orL su ho m n)) := hid (ho6.mono HBV.out.size); have HB6 : Hid (Below w.heap.size w w6) := hid (bel_on HBV.out hb6); clear ho6 hb6)
        | (go_at_call 82; refine (l18List_eq _ n cp6 (orL su ho m n) _ _ hn HO6.out.row HTV.out).mono ?_; rintro e w7 ⟨rfl, b7⟩; have HB7 : Hid (Below w.heap.size w w7) := hid (bel_on HB6.out b7); have HO7 := hid (HO6.out.below b7); clear b7))
      go_returns
      exact ⟨_, ⟨_, rfl⟩, HO7.out, HB7.out⟩
end Go.Proofs.Ytmbdeafpfdeigaa
