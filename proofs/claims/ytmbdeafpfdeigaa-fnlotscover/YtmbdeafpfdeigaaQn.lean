/- The model's LotsOf, given its least lots. -/
import Derived.Test.YtmbdeafpfdeigaaQm
import Derived.BigRegion
namespace Go.Proofs.Ytmbdeafpfdeigaa
open Go Go.ChangeShapes Go.WideShapes Go.ChangeAt Go.RowKit
set_option linter.unusedVariables false
set_option linter.unusedSimpArgs false

theorem gb_id (n : Nat) : GB n (fun _ s => s) := fun k s _ _ _ => ⟨Int.le_refl _, by show s ≤ s + 40000000; omega⟩
theorem TI.alloc {W : World} {tb n : Nat} {f : Nat → Int} (h : TI W tb n f) (o : Obj) : TI (W.alloc o) tb n f := h.below ((Below.refl _ _).alloc (Nat.le_refl _) _)
set_option maxRecDepth 20000 in
set_option maxHeartbeats 4000000 in
theorem specLots1_any (sz su ho : Int) (ad : Option Addr) (n cap : Nat) (m : Nat → Int) (w : World) (hl : ltB ⟨1, sz, su, ho⟩ = true) (hN : nqB m n = true) (hr : IR w ad n m) :
    Calls Try.prog 34 #[.agg #[.int .i64 1, .int .i64 sz, .int .i64 su, .int .i64 ho], .slice ad n cap] w fun e w' => ∃ a cp, e = .returned (.tuple #[.slice a (loM ⟨1, sz, su, ho⟩ m n) cp, .bool (loB ⟨1, sz, su, ho⟩ m n)]) ∧ OwnI w' w.heap.size a (loM ⟨1, sz, su, ho⟩ m n) (ordF ⟨1, sz, su, ho⟩ m n) ∧ Below w.heap.size w w' := by
  have HR : Hid (IR w ad n m) := hr
  have HBL : Hid (Below w.heap.size w ((w.alloc (.cells #[.int .i64 1, .int .i64 sz, .int .i64 su, .int .i64 ho] 48 (0, 0))).alloc (.cells #[] 3 (0, 0)))) := ((Below.refl _ _).alloc (Nat.le_refl _) _).alloc (by simp) _
  have HC : Hid (CB ((w.alloc (.cells #[.int .i64 1, .int .i64 sz, .int .i64 su, .int .i64 ho] 48 (0, 0))).alloc (.cells #[] 3 (0, 0))) w.heap.size #[.int .i64 1, .int .i64 sz, .int .i64 su, .int .i64 ho] 48) := (CB.new _ _).alloc _
  have HL : Hid (ltB ⟨1, sz, su, ho⟩ = true) := hl
  have HN : Hid (nqB m n = true) := hN
  obtain ⟨hn0, hn40, hm⟩ := nqB_p hN
  obtain ⟨_, hz, _, _⟩ := ltB_p hl
  replace hz : 1 ≤ sz ∧ sz ≤ 1000000 := hz
  have hn : (n : Int) ≤ 1048576 := by omega
  have hn4 : (n : Int) ≤ 40 := by omega
  obtain ⟨g, hg⟩ : ∃ g, g = (fun (_ : Nat) (s : Int) => s) := ⟨_, rfl⟩
  have HGB : Hid (GB n g) := hid (by rw [hg]; exact gb_id n)
  have HGD : Hid (∀ k s, g k s = s) := hid (by rw [hg]; exact fun k s => rfl)
  have HO : Hid (∀ j, j < n → ordF ⟨1, sz, su, ho⟩ m n j = tO g m j) := hid (fun j hj => by rw [hg]; exact ((tO_self m n (fun j hj => (hm j hj).1) n (Nat.le_refl _)).2 j hj).symm)
  have HQ : Hid (∀ j, j < n → 0 ≤ m j ∧ m j ≤ 1000000) := hm
  have HLO : Hid (loB ⟨1, sz, su, ho⟩ m n = nqB (tO g m) n) := hid (by
    unfold loB
    rw [hl, hN, rgB_congr n HO.out]
    unfold nqB
    rw [inB_y (by omega) (by omega)]; simp)
  have hmk := mkI n hn
  clear hr hl hN hm hg
  obtain ⟨TV, hTV⟩ : ∃ v, nqB (tO g m) n = v := ⟨_, rfl⟩
  rw [hTV] at HLO
  have HTV : Hid (nqB (tO g m) n = TV) := hTV
  clear hTV
  have tkA : True := trivial
  have hlm : loM ⟨1, sz, su, ho⟩ m n = if TV = true then n else 0 := by unfold loM; rw [HLO.out]
  rw [HLO.out, hlm]
  clear hlm
  go_enter Try.func34, Try.ntmps34
  go_wp2_with (first | (go_at_call 81; refine (l18Lots_eq ⟨1, sz, su, ho⟩ _ _ HL.out).mono ?_; rintro e w1 ⟨rfl, b1⟩; have HB1 : Hid (Below w.heap.size w w1) := hid (bel_on HBL.out b1); have HC1 := hid (HC.out.below b1 HC.out.lt); clear b1) | (go_at_call 82; clear tkA; refine (l18List_eq _ n cap m _ _ hn (HR.out.below HB1.out) HN.out).mono ?_; rintro e w2 ⟨rfl, b2⟩; have HB2 : Hid (Below w.heap.size w w2) := hid (bel_on HB1.out b2); have HC2 := hid (HC1.out.below b2 HC1.out.lt); have k0 : w2.cell? ⟨w.heap.size, 0, none⟩ = some (.int .i64 1) := (HC2.out.cell 0).trans rfl; have k1 : w2.cell? ⟨w.heap.size, 1, none⟩ = some (.int .i64 sz) := (HC2.out.cell 1).trans rfl; have k2 : w2.cell? ⟨w.heap.size, 2, none⟩ = some (.int .i64 su) := (HC2.out.cell 2).trans rfl; have k3 : w2.cell? ⟨w.heap.size, 3, none⟩ = some (.int .i64 ho) := (HC2.out.cell 3).trans rfl; clear b2))
  obtain ⟨tb, htb⟩ : ∃ x, w2.heap.size = x := ⟨_, rfl⟩
  have HTB : Hid (w.heap.size ≤ tb ∧ w.heap.size < tb) := hid (by have := HB2.out.size; have := HC2.out.lt; omega)
  have HST : Hid (Below w.heap.size w (w2.alloc (.cells (zeros n) 3)) ∧ CB (w2.alloc (.cells (zeros n) 3)) w.heap.size #[.int .i64 1, .int .i64 sz, .int .i64 su, .int .i64 ho] 48 ∧ TI (w2.alloc (.cells (zeros n) 3)) tb n (fun j => if j < 0 then tO g m j else 0)) := hid ⟨HB2.out.alloc HB2.out.size _, HC2.out.alloc _, by rw [← htb]; exact (TI.made w2 n).congr (fun j hj => by simp)⟩
  generalize hWV : w2.alloc (.cells (zeros n) 3) = WV at HST ⊢
  rw [htb]
  clear hWV htb k0 k1 k2 k3 hmk HB1 HB2 HC1 HC2 HBL HC
  go_loopw [8] (fun u wr => ∃ k : Nat, k ≤ n ∧ u = .int .i64 (k : Int) ∧ Hid (Below w.heap.size w wr ∧ CB wr w.heap.size #[.int .i64 1, .int .i64 sz, .int .i64 su, .int .i64 ho] 48 ∧ TI wr tb n (fun j => if j < k then tO g m j else 0))) (fun u _ => n - (intOf u).toNat)
  case atStart => exact ⟨0, Nat.zero_le _, rfl, HST⟩
  case round =>
    clear HST
    obtain ⟨k, hk, rfl, HH⟩ := hrel
    obtain ⟨wo, rfl⟩ : ∃ x, x = wr := ⟨wr, rfl⟩
    have kk0 : wo.cell? ⟨w.heap.size, 0, none⟩ = some (.int .i64 1) := (HH.out.2.1.cell 0).trans rfl
    have kk1 : wo.cell? ⟨w.heap.size, 1, none⟩ = some (.int .i64 sz) := (HH.out.2.1.cell 1).trans rfl
    by_cases hlt : k < n
    · have hlt2 : (k : Int) < (n : Int) := by omega
      have HIR : Hid (IR wo ad n m ∧ IR wo (some ⟨tb, 0, none⟩) n (fun j => if j < k then tO g m j else 0)) := hid ⟨HR.out.below HH.out.1, HH.out.2.2.row⟩
      have HSB : Hid (SmB m n ∧ SmB (fun j => if j < k then tO g m j else 0) n) := hid ⟨smB_q hn40 HQ.out, hn40, fun j hj => by
        show -100000000 ≤ (if j < k then tO g m j else 0) ∧ (if j < k then tO g m j else 0) ≤ 100000000
        split
        · have := gb_tO HGB.out HQ.out (k := j) hj; omega
        · omega⟩
      have HS1 : Hid (∀ v, v = ((k + 1 : Nat) : Int) → Calls Try.prog 83 #[.slice ad n cap, .int .i64 0, .int .i64 v] wo fun e w' => e = .returned (.int .i64 (smQ m (k + 1))) ∧ w' = wo) := hid (fun v hv => by
        have := l18Sum_eq ad n cap m 0 (k + 1) 0 v rfl hv wo (by omega) (by omega) HSB.out.1 HIR.out.1
        rwa [rsV_0 (by omega)] at this)
      have HS2 : Hid (Calls Try.prog 83 #[.slice (some ⟨tb, 0, none⟩) n n, .int .i64 0, .int .i64 (k : Int)] wo fun e w' => e = .returned (.int .i64 (smQ (tO g m) k)) ∧ w' = wo) := hid (by
        have := l18Sum_eq (some ⟨tb, 0, none⟩) n n (fun j => if j < k then tO g m j else 0) 0 k 0 (k : Int) rfl rfl wo (by omega) (by omega) HSB.out.2 HIR.out.2
        rw [rsV_0 (by omega), smq_congr (y := tO g m) k (fun j hj => if_pos hj)] at this; exact this)
      have e1 := smq_tO g m k
      have e2 : smQ m (k + 1) = smQ m k + m k := rfl
      have t1 := gb_tS HGB.out HQ.out k (by omega)
      have m1 := HQ.out k hlt
      obtain ⟨s, hs⟩ : ∃ s, m k - tS g m k = s := ⟨_, rfl⟩
      have hw1 : IntKind.i64.wrap (smQ m (k + 1) - smQ (tO g m) k) = s := by
        rw [show smQ m (k + 1) - smQ (tO g m) k = s by omega]; exact IntWalk.i64_in _ ⟨by omega, by omega⟩
      have hss : tS g m k - m k = -s := by omega
      have f1 := HH.out.2.2.fr k
      have q1 := HH.out.2.2.cell hlt
      rw [if_neg (by omega)] at q1
      have tk1 : True := trivial
      have tk2 : True := trivial
      by_cases hs0 : s ≤ 0
      · have HOK : Hid (tO g m k = 0) := hid (if_neg (by omega))
        have HN2 : Hid (TI wo tb n (fun j => if j < k + 1 then tO g m j else 0)) := hid (HH.out.2.2.congr (fun j hj => by
            by_cases e : j = k
            · subst e; rw [if_neg (by omega), if_pos (by omega), HOK.out]
            · by_cases e2 : j < k
              · rw [if_pos e2, if_pos (by omega)]
              · rw [if_neg e2, if_neg (by omega)]))
        clear e1 e2 t1 m1 hs hss
        generalize smQ m (k + 1) = X1 at *
        generalize smQ (tO g m) k = X2 at *
        go_wp2_with (first
          | (go_at_call 83; clear tk1; refine (HS1.out _ (by omega)).mono ?_; rintro e w5 ⟨rfl, ew⟩; replace ew := ew.symm; subst ew)
          | (go_at_call 83; clear tk2; refine HS2.out.mono ?_; rintro e w5 ⟨rfl, ew⟩; replace ew := ew.symm; subst ew))
        go_roundw
        case rel => exact ⟨k + 1, by omega, by go_num, hid ⟨HH.out.1, HH.out.2.1, HN2.out⟩⟩
        case measure => first | (simp [intOf]; done) | (simp [intOf]; omega)
      · have hs1 : 0 < s := by omega
        have hsm : s ≤ 1000000 := by omega
        have HOK : Hid (tO g m k = g k s) := hid (by
          have : tO g m k = g k (-(tS g m k - m k)) := if_pos (by omega)
          rw [this, hss, Int.neg_neg])
        have g1 := HGB.out k s hlt hs1 hsm
        have hx := True.intro
        clear e1 e2 t1 m1 hs hss g1
        generalize smQ m (k + 1) = X1 at *
        generalize smQ (tO g m) k = X2 at *
        go_wp2_with (first
          | (go_at_call 83; clear tk1; refine (HS1.out _ (by omega)).mono ?_; rintro e w5 ⟨rfl, ew⟩; replace ew := ew.symm; subst ew)
          | (go_at_call 83; clear tk2; refine HS2.out.mono ?_; rintro e w5 ⟨rfl, ew⟩; replace ew := ew.symm; subst ew))
        go_roundw
        case rel => exact ⟨k + 1, by omega, by go_num, hid ⟨HH.out.1.setCell (by have := HTB.out; show _ ≤ tb; omega) _, cb_other HH.out.2.1 _ (by have := HTB.out; omega), (HH.out.2.2.set hlt _).congr (fun j hj => by
            by_cases e : j = k
            · subst e; rw [if_pos rfl, if_pos (by omega), HOK.out, HGD.out]
            · rw [if_neg e]
              by_cases e2 : j < k
              · rw [if_pos e2, if_pos (by omega)]
              · rw [if_neg e2, if_neg (by omega)])⟩⟩
        case measure => first | (simp [intOf]; done) | (simp [intOf]; omega)
    · obtain rfl : k = n := by omega
      have lkk : ¬ (k : Int) < (k : Int) := by omega
      have HT : Hid (TI wo tb k (tO g m) ∧ Below w.heap.size w wo) := hid ⟨HH.out.2.2.congr (fun j hj => by rw [if_pos hj]), HH.out.1⟩
      clear HH
      cases TV
      · go_wp2_with (go_at_call 82; refine (l18List_eq _ k k (tO g m) _ _ hn HT.out.1.row HTV.out).mono ?_; rintro e w6 ⟨rfl, b6⟩; have HB6 : Hid (Below w.heap.size w w6) := hid (bel_on HT.out.2 b6); clear b6)
        go_returns
        exact ⟨_, ⟨_, rfl⟩, .inl rfl, HB6.out⟩
      · go_wp2_with (go_at_call 82; refine (l18List_eq _ k k (tO g m) _ _ hn HT.out.1.row HTV.out).mono ?_; rintro e w6 ⟨rfl, b6⟩; have HB6 : Hid (Below w.heap.size w w6 ∧ TI w6 tb k (tO g m)) := hid ⟨bel_on HT.out.2 b6, HT.out.1.below b6⟩; clear b6)
        go_returns
        have hown := (HB6.out.2.congr (fun j hj => (HO.out j hj).symm)).own HTB.out.1
        exact ⟨_, ⟨_, rfl⟩, hown, HB6.out.1⟩
set_option maxRecDepth 20000 in
set_option maxHeartbeats 4000000 in
theorem specLots2_any (sz su ho : Int) (ad : Option Addr) (n cap : Nat) (m : Nat → Int) (w : World) (hl : ltB ⟨2, sz, su, ho⟩ = true) (hN : nqB m n = true) (hr : IR w ad n m) :
    Calls Try.prog 34 #[.agg #[.int .i64 2, .int .i64 sz, .int .i64 su, .int .i64 ho], .slice ad n cap] w fun e w' => ∃ a cp, e = .returned (.tuple #[.slice a (loM ⟨2, sz, su, ho⟩ m n) cp, .bool (loB ⟨2, sz, su, ho⟩ m n)]) ∧ OwnI w' w.heap.size a (loM ⟨2, sz, su, ho⟩ m n) (ordF ⟨2, sz, su, ho⟩ m n) ∧ Below w.heap.size w w' := by
  have HR : Hid (IR w ad n m) := hr
  have HBL : Hid (Below w.heap.size w ((w.alloc (.cells #[.int .i64 2, .int .i64 sz, .int .i64 su, .int .i64 ho] 48 (0, 0))).alloc (.cells #[] 3 (0, 0)))) := ((Below.refl _ _).alloc (Nat.le_refl _) _).alloc (by simp) _
  have HC : Hid (CB ((w.alloc (.cells #[.int .i64 2, .int .i64 sz, .int .i64 su, .int .i64 ho] 48 (0, 0))).alloc (.cells #[] 3 (0, 0))) w.heap.size #[.int .i64 2, .int .i64 sz, .int .i64 su, .int .i64 ho] 48) := (CB.new _ _).alloc _
  have HL : Hid (ltB ⟨2, sz, su, ho⟩ = true) := hl
  have HN : Hid (nqB m n = true) := hN
  obtain ⟨hn0, hn40, hm⟩ := nqB_p hN
  obtain ⟨_, hz, _, _⟩ := ltB_p hl
  replace hz : 1 ≤ sz ∧ sz ≤ 1000000 := hz
  have hn : (n : Int) ≤ 1048576 := by omega
  have hn4 : (n : Int) ≤ 40 := by omega
  obtain ⟨g, hg⟩ : ∃ g, g = fxG sz := ⟨_, rfl⟩
  have HGB : Hid (GB n g) := hid (by rw [hg]; exact gb_fx hz)
  have HGD : Hid (∀ k s, g k s = bat s sz * sz) := hid (by rw [hg]; exact fun k s => rfl)
  have HO : Hid (∀ j, j < n → ordF ⟨2, sz, su, ho⟩ m n j = tO g m j) := hid (fun j hj => by rw [hg]; exact rfl)
  have HQ : Hid (∀ j, j < n → 0 ≤ m j ∧ m j ≤ 1000000) := hm
  have HLO : Hid (loB ⟨2, sz, su, ho⟩ m n = nqB (tO g m) n) := hid (by
    unfold loB
    rw [hl, hN, rgB_congr n HO.out]
    unfold nqB
    rw [inB_y (by omega) (by omega)]; simp)
  have hmk := mkI n hn
  clear hr hl hN hm hg
  obtain ⟨TV, hTV⟩ : ∃ v, nqB (tO g m) n = v := ⟨_, rfl⟩
  rw [hTV] at HLO
  have HTV : Hid (nqB (tO g m) n = TV) := hTV
  clear hTV
  have tkA : True := trivial
  have hlm : loM ⟨2, sz, su, ho⟩ m n = if TV = true then n else 0 := by unfold loM; rw [HLO.out]
  rw [HLO.out, hlm]
  clear hlm
  go_enter Try.func34, Try.ntmps34
  go_wp2_with (first | (go_at_call 81; refine (l18Lots_eq ⟨2, sz, su, ho⟩ _ _ HL.out).mono ?_; rintro e w1 ⟨rfl, b1⟩; have HB1 : Hid (Below w.heap.size w w1) := hid (bel_on HBL.out b1); have HC1 := hid (HC.out.below b1 HC.out.lt); clear b1) | (go_at_call 82; clear tkA; refine (l18List_eq _ n cap m _ _ hn (HR.out.below HB1.out) HN.out).mono ?_; rintro e w2 ⟨rfl, b2⟩; have HB2 : Hid (Below w.heap.size w w2) := hid (bel_on HB1.out b2); have HC2 := hid (HC1.out.below b2 HC1.out.lt); have k0 : w2.cell? ⟨w.heap.size, 0, none⟩ = some (.int .i64 2) := (HC2.out.cell 0).trans rfl; have k1 : w2.cell? ⟨w.heap.size, 1, none⟩ = some (.int .i64 sz) := (HC2.out.cell 1).trans rfl; have k2 : w2.cell? ⟨w.heap.size, 2, none⟩ = some (.int .i64 su) := (HC2.out.cell 2).trans rfl; have k3 : w2.cell? ⟨w.heap.size, 3, none⟩ = some (.int .i64 ho) := (HC2.out.cell 3).trans rfl; clear b2))
  obtain ⟨tb, htb⟩ : ∃ x, w2.heap.size = x := ⟨_, rfl⟩
  have HTB : Hid (w.heap.size ≤ tb ∧ w.heap.size < tb) := hid (by have := HB2.out.size; have := HC2.out.lt; omega)
  have HST : Hid (Below w.heap.size w (w2.alloc (.cells (zeros n) 3)) ∧ CB (w2.alloc (.cells (zeros n) 3)) w.heap.size #[.int .i64 2, .int .i64 sz, .int .i64 su, .int .i64 ho] 48 ∧ TI (w2.alloc (.cells (zeros n) 3)) tb n (fun j => if j < 0 then tO g m j else 0)) := hid ⟨HB2.out.alloc HB2.out.size _, HC2.out.alloc _, by rw [← htb]; exact (TI.made w2 n).congr (fun j hj => by simp)⟩
  generalize hWV : w2.alloc (.cells (zeros n) 3) = WV at HST ⊢
  rw [htb]
  clear hWV htb k0 k1 k2 k3 hmk HB1 HB2 HC1 HC2 HBL HC
  go_loopw [8] (fun u wr => ∃ k : Nat, k ≤ n ∧ u = .int .i64 (k : Int) ∧ Hid (Below w.heap.size w wr ∧ CB wr w.heap.size #[.int .i64 2, .int .i64 sz, .int .i64 su, .int .i64 ho] 48 ∧ TI wr tb n (fun j => if j < k then tO g m j else 0))) (fun u _ => n - (intOf u).toNat)
  case atStart => exact ⟨0, Nat.zero_le _, rfl, HST⟩
  case round =>
    clear HST
    obtain ⟨k, hk, rfl, HH⟩ := hrel
    obtain ⟨wo, rfl⟩ : ∃ x, x = wr := ⟨wr, rfl⟩
    have kk0 : wo.cell? ⟨w.heap.size, 0, none⟩ = some (.int .i64 2) := (HH.out.2.1.cell 0).trans rfl
    have kk1 : wo.cell? ⟨w.heap.size, 1, none⟩ = some (.int .i64 sz) := (HH.out.2.1.cell 1).trans rfl
    by_cases hlt : k < n
    · have hlt2 : (k : Int) < (n : Int) := by omega
      have HIR : Hid (IR wo ad n m ∧ IR wo (some ⟨tb, 0, none⟩) n (fun j => if j < k then tO g m j else 0)) := hid ⟨HR.out.below HH.out.1, HH.out.2.2.row⟩
      have HSB : Hid (SmB m n ∧ SmB (fun j => if j < k then tO g m j else 0) n) := hid ⟨smB_q hn40 HQ.out, hn40, fun j hj => by
        show -100000000 ≤ (if j < k then tO g m j else 0) ∧ (if j < k then tO g m j else 0) ≤ 100000000
        split
        · have := gb_tO HGB.out HQ.out (k := j) hj; omega
        · omega⟩
      have HS1 : Hid (∀ v, v = ((k + 1 : Nat) : Int) → Calls Try.prog 83 #[.slice ad n cap, .int .i64 0, .int .i64 v] wo fun e w' => e = .returned (.int .i64 (smQ m (k + 1))) ∧ w' = wo) := hid (fun v hv => by
        have := l18Sum_eq ad n cap m 0 (k + 1) 0 v rfl hv wo (by omega) (by omega) HSB.out.1 HIR.out.1
        rwa [rsV_0 (by omega)] at this)
      have HS2 : Hid (Calls Try.prog 83 #[.slice (some ⟨tb, 0, none⟩) n n, .int .i64 0, .int .i64 (k : Int)] wo fun e w' => e = .returned (.int .i64 (smQ (tO g m) k)) ∧ w' = wo) := hid (by
        have := l18Sum_eq (some ⟨tb, 0, none⟩) n n (fun j => if j < k then tO g m j else 0) 0 k 0 (k : Int) rfl rfl wo (by omega) (by omega) HSB.out.2 HIR.out.2
        rw [rsV_0 (by omega), smq_congr (y := tO g m) k (fun j hj => if_pos hj)] at this; exact this)
      have e1 := smq_tO g m k
      have e2 : smQ m (k + 1) = smQ m k + m k := rfl
      have t1 := gb_tS HGB.out HQ.out k (by omega)
      have m1 := HQ.out k hlt
      obtain ⟨s, hs⟩ : ∃ s, m k - tS g m k = s := ⟨_, rfl⟩
      have hw1 : IntKind.i64.wrap (smQ m (k + 1) - smQ (tO g m) k) = s := by
        rw [show smQ m (k + 1) - smQ (tO g m) k = s by omega]; exact IntWalk.i64_in _ ⟨by omega, by omega⟩
      have hss : tS g m k - m k = -s := by omega
      have f1 := HH.out.2.2.fr k
      have q1 := HH.out.2.2.cell hlt
      rw [if_neg (by omega)] at q1
      have tk1 : True := trivial
      have tk2 : True := trivial
      by_cases hs0 : s ≤ 0
      · have HOK : Hid (tO g m k = 0) := hid (if_neg (by omega))
        have HN2 : Hid (TI wo tb n (fun j => if j < k + 1 then tO g m j else 0)) := hid (HH.out.2.2.congr (fun j hj => by
            by_cases e : j = k
            · subst e; rw [if_neg (by omega), if_pos (by omega), HOK.out]
            · by_cases e2 : j < k
              · rw [if_pos e2, if_pos (by omega)]
              · rw [if_neg e2, if_neg (by omega)]))
        clear e1 e2 t1 m1 hs hss
        generalize smQ m (k + 1) = X1 at *
        generalize smQ (tO g m) k = X2 at *
        go_wp2_with (first
          | (go_at_call 83; clear tk1; refine (HS1.out _ (by omega)).mono ?_; rintro e w5 ⟨rfl, ew⟩; replace ew := ew.symm; subst ew)
          | (go_at_call 83; clear tk2; refine HS2.out.mono ?_; rintro e w5 ⟨rfl, ew⟩; replace ew := ew.symm; subst ew))
        go_roundw
        case rel => exact ⟨k + 1, by omega, by go_num, hid ⟨HH.out.1, HH.out.2.1, HN2.out⟩⟩
        case measure => first | (simp [intOf]; done) | (simp [intOf]; omega)
      · have hs1 : 0 < s := by omega
        have hsm : s ≤ 1000000 := by omega
        have HOK : Hid (tO g m k = g k s) := hid (by
          have : tO g m k = g k (-(tS g m k - m k)) := if_pos (by omega)
          rw [this, hss, Int.neg_neg])
        have g1 := HGB.out k s hlt hs1 hsm
        have hq0 : 0 ≤ s + sz - 1 := by omega
        have hw2 : IntKind.i64.wrap (s + sz) = s + sz := IntWalk.i64_in _ ⟨by omega, by omega⟩
        have hw3 : IntKind.i64.wrap (s + sz - 1) = s + sz - 1 := IntWalk.i64_in _ ⟨by omega, by omega⟩
        have ht : (s + sz - 1).tdiv sz = bat s sz := Int.tdiv_eq_ediv_of_nonneg hq0
        have hbd := bat_bd (q := s) (b := sz) (by omega) hz.1
        have hw4 : IntKind.i64.wrap (bat s sz) = bat s sz := IntWalk.i64_in _ ⟨by omega, by omega⟩
        have hgx : g k s = bat s sz * sz := HGD.out k s
        have hw5 : IntKind.i64.wrap (bat s sz * sz) = bat s sz * sz := IntWalk.i64_in _ ⟨by omega, by omega⟩
        have hz0 : ¬ sz = 0 := by omega
        have hz1 : (sz == 0) = false := by simp; omega
        have z1 : wo.drew.cell? ⟨w.heap.size, 1, none⟩ = some (.int .i64 sz) := kk1
        have z2 : wo.drew.cell? ⟨tb, k, none⟩ = some (.int .i64 0) := q1
        have z3 : wo.drew.frozen? ⟨tb, k, none⟩ = false := f1
        clear hbd hgx
        clear e1 e2 t1 m1 hs hss g1
        generalize smQ m (k + 1) = X1 at *
        generalize smQ (tO g m) k = X2 at *
        go_wp2_with (first
          | (go_at_call 83; clear tk1; refine (HS1.out _ (by omega)).mono ?_; rintro e w5 ⟨rfl, ew⟩; replace ew := ew.symm; subst ew)
          | (go_at_call 83; clear tk2; refine HS2.out.mono ?_; rintro e w5 ⟨rfl, ew⟩; replace ew := ew.symm; subst ew))
        go_region
        go_wp2
        go_roundw
        case rel => exact ⟨k + 1, by omega, by go_num, hid ⟨HH.out.1.drew.setCell (by have := HTB.out; show _ ≤ tb; omega) _, cb_other (W := wo.drew) HH.out.2.1 _ (by have := HTB.out; omega), (TI.set (W := wo.drew) HH.out.2.2 hlt _).congr (fun j hj => by
            by_cases e : j = k
            · subst e; rw [if_pos rfl, if_pos (by omega), HOK.out, HGD.out]
            · rw [if_neg e]
              by_cases e2 : j < k
              · rw [if_pos e2, if_pos (by omega)]
              · rw [if_neg e2, if_neg (by omega)])⟩⟩
        case measure => first | (simp [intOf]; done) | (simp [intOf]; omega)
    · obtain rfl : k = n := by omega
      have lkk : ¬ (k : Int) < (k : Int) := by omega
      have HT : Hid (TI wo tb k (tO g m) ∧ Below w.heap.size w wo) := hid ⟨HH.out.2.2.congr (fun j hj => by rw [if_pos hj]), HH.out.1⟩
      clear HH
      cases TV
      · go_wp2_with (go_at_call 82; refine (l18List_eq _ k k (tO g m) _ _ hn HT.out.1.row HTV.out).mono ?_; rintro e w6 ⟨rfl, b6⟩; have HB6 : Hid (Below w.heap.size w w6) := hid (bel_on HT.out.2 b6); clear b6)
        go_returns
        exact ⟨_, ⟨_, rfl⟩, .inl rfl, HB6.out⟩
      · go_wp2_with (go_at_call 82; refine (l18List_eq _ k k (tO g m) _ _ hn HT.out.1.row HTV.out).mono ?_; rintro e w6 ⟨rfl, b6⟩; have HB6 : Hid (Below w.heap.size w w6 ∧ TI w6 tb k (tO g m)) := hid ⟨bel_on HT.out.2 b6, HT.out.1.below b6⟩; clear b6)
        go_returns
        have hown := (HB6.out.2.congr (fun j hj => (HO.out j hj).symm)).own HTB.out.1
        exact ⟨_, ⟨_, rfl⟩, hown, HB6.out.1⟩
set_option maxRecDepth 20000 in
set_option maxHeartbeats 4000000 in
theorem specLots3_any (sz su ho : Int) (ad : Option Addr) (n cap : Nat) (m : Nat → Int) (w : World) (hl : ltB ⟨3, sz, su, ho⟩ = true) (hN : nqB m n = true) (hr : IR w ad n m) :
    Calls Try.prog 34 #[.agg #[.int .i64 3, .int .i64 sz, .int .i64 su, .int .i64 ho], .slice ad n cap] w fun e w' => ∃ a cp, e = .returned (.tuple #[.slice a (loM ⟨3, sz, su, ho⟩ m n) cp, .bool (loB ⟨3, sz, su, ho⟩ m n)]) ∧ OwnI w' w.heap.size a (loM ⟨3, sz, su, ho⟩ m n) (ordF ⟨3, sz, su, ho⟩ m n) ∧ Below w.heap.size w w' := by
  have HR : Hid (IR w ad n m) := hr
  have HBL : Hid (Below w.heap.size w ((w.alloc (.cells #[.int .i64 3, .int .i64 sz, .int .i64 su, .int .i64 ho] 48 (0, 0))).alloc (.cells #[] 3 (0, 0)))) := ((Below.refl _ _).alloc (Nat.le_refl _) _).alloc (by simp) _
  have HC : Hid (CB ((w.alloc (.cells #[.int .i64 3, .int .i64 sz, .int .i64 su, .int .i64 ho] 48 (0, 0))).alloc (.cells #[] 3 (0, 0))) w.heap.size #[.int .i64 3, .int .i64 sz, .int .i64 su, .int .i64 ho] 48) := (CB.new _ _).alloc _
  have HL : Hid (ltB ⟨3, sz, su, ho⟩ = true) := hl
  have HN : Hid (nqB m n = true) := hN
  obtain ⟨hn0, hn40, hm⟩ := nqB_p hN
  obtain ⟨_, hz, _, _⟩ := ltB_p hl
  replace hz : 1 ≤ sz ∧ sz ≤ 1000000 := hz
  have hn : (n : Int) ≤ 1048576 := by omega
  have hn4 : (n : Int) ≤ 40 := by omega
  obtain ⟨g, hg⟩ : ∃ g, g = spG m sz n := ⟨_, rfl⟩
  have HGB : Hid (GB n g) := hid (by rw [hg]; exact gb_sp hn40 hz hm)
  have HGD : Hid (∀ k s, g k s = spG m sz n k s) := hid (by rw [hg]; exact fun k s => rfl)
  have HO : Hid (∀ j, j < n → ordF ⟨3, sz, su, ho⟩ m n j = tO g m j) := hid (fun j hj => by rw [hg]; exact rfl)
  have HQ : Hid (∀ j, j < n → 0 ≤ m j ∧ m j ≤ 1000000) := hm
  have HLO : Hid (loB ⟨3, sz, su, ho⟩ m n = nqB (tO g m) n) := hid (by
    unfold loB
    rw [hl, hN, rgB_congr n HO.out]
    unfold nqB
    rw [inB_y (by omega) (by omega)]; simp)
  have hmk := mkI n hn
  clear hr hl hN hm hg
  obtain ⟨TV, hTV⟩ : ∃ v, nqB (tO g m) n = v := ⟨_, rfl⟩
  rw [hTV] at HLO
  have HTV : Hid (nqB (tO g m) n = TV) := hTV
  clear hTV
  have tkA : True := trivial
  have hlm : loM ⟨3, sz, su, ho⟩ m n = if TV = true then n else 0 := by unfold loM; rw [HLO.out]
  rw [HLO.out, hlm]
  clear hlm
  go_enter Try.func34, Try.ntmps34
  go_wp2_with (first | (go_at_call 81; refine (l18Lots_eq ⟨3, sz, su, ho⟩ _ _ HL.out).mono ?_; rintro e w1 ⟨rfl, b1⟩; have HB1 : Hid (Below w.heap.size w w1) := hid (bel_on HBL.out b1); have HC1 := hid (HC.out.below b1 HC.out.lt); clear b1) | (go_at_call 82; clear tkA; refine (l18List_eq _ n cap m _ _ hn (HR.out.below HB1.out) HN.out).mono ?_; rintro e w2 ⟨rfl, b2⟩; have HB2 : Hid (Below w.heap.size w w2) := hid (bel_on HB1.out b2); have HC2 := hid (HC1.out.below b2 HC1.out.lt); have k0 : w2.cell? ⟨w.heap.size, 0, none⟩ = some (.int .i64 3) := (HC2.out.cell 0).trans rfl; have k1 : w2.cell? ⟨w.heap.size, 1, none⟩ = some (.int .i64 sz) := (HC2.out.cell 1).trans rfl; have k2 : w2.cell? ⟨w.heap.size, 2, none⟩ = some (.int .i64 su) := (HC2.out.cell 2).trans rfl; have k3 : w2.cell? ⟨w.heap.size, 3, none⟩ = some (.int .i64 ho) := (HC2.out.cell 3).trans rfl; clear b2))
  obtain ⟨tb, htb⟩ : ∃ x, w2.heap.size = x := ⟨_, rfl⟩
  have HTB : Hid (w.heap.size ≤ tb ∧ w.heap.size < tb) := hid (by have := HB2.out.size; have := HC2.out.lt; omega)
  have HST : Hid (Below w.heap.size w (w2.alloc (.cells (zeros n) 3)) ∧ CB (w2.alloc (.cells (zeros n) 3)) w.heap.size #[.int .i64 3, .int .i64 sz, .int .i64 su, .int .i64 ho] 48 ∧ TI (w2.alloc (.cells (zeros n) 3)) tb n (fun j => if j < 0 then tO g m j else 0)) := hid ⟨HB2.out.alloc HB2.out.size _, HC2.out.alloc _, by rw [← htb]; exact (TI.made w2 n).congr (fun j hj => by simp)⟩
  generalize hWV : w2.alloc (.cells (zeros n) 3) = WV at HST ⊢
  rw [htb]
  clear hWV htb k0 k1 k2 k3 hmk HB1 HB2 HC1 HC2 HBL HC
  go_loopw [8] (fun u wr => ∃ k : Nat, k ≤ n ∧ u = .int .i64 (k : Int) ∧ Hid (Below w.heap.size w wr ∧ CB wr w.heap.size #[.int .i64 3, .int .i64 sz, .int .i64 su, .int .i64 ho] 48 ∧ TI wr tb n (fun j => if j < k then tO g m j else 0))) (fun u _ => n - (intOf u).toNat)
  case atStart => exact ⟨0, Nat.zero_le _, rfl, HST⟩
  case round =>
    clear HST
    obtain ⟨k, hk, rfl, HH⟩ := hrel
    obtain ⟨wo, rfl⟩ : ∃ x, x = wr := ⟨wr, rfl⟩
    have kk0 : wo.cell? ⟨w.heap.size, 0, none⟩ = some (.int .i64 3) := (HH.out.2.1.cell 0).trans rfl
    have kk1 : wo.cell? ⟨w.heap.size, 1, none⟩ = some (.int .i64 sz) := (HH.out.2.1.cell 1).trans rfl
    by_cases hlt : k < n
    · have hlt2 : (k : Int) < (n : Int) := by omega
      have HIR : Hid (IR wo ad n m ∧ IR wo (some ⟨tb, 0, none⟩) n (fun j => if j < k then tO g m j else 0)) := hid ⟨HR.out.below HH.out.1, HH.out.2.2.row⟩
      have HSB : Hid (SmB m n ∧ SmB (fun j => if j < k then tO g m j else 0) n) := hid ⟨smB_q hn40 HQ.out, hn40, fun j hj => by
        show -100000000 ≤ (if j < k then tO g m j else 0) ∧ (if j < k then tO g m j else 0) ≤ 100000000
        split
        · have := gb_tO HGB.out HQ.out (k := j) hj; omega
        · omega⟩
      have HS1 : Hid (∀ v, v = ((k + 1 : Nat) : Int) → Calls Try.prog 83 #[.slice ad n cap, .int .i64 0, .int .i64 v] wo fun e w' => e = .returned (.int .i64 (smQ m (k + 1))) ∧ w' = wo) := hid (fun v hv => by
        have := l18Sum_eq ad n cap m 0 (k + 1) 0 v rfl hv wo (by omega) (by omega) HSB.out.1 HIR.out.1
        rwa [rsV_0 (by omega)] at this)
      have HS2 : Hid (Calls Try.prog 83 #[.slice (some ⟨tb, 0, none⟩) n n, .int .i64 0, .int .i64 (k : Int)] wo fun e w' => e = .returned (.int .i64 (smQ (tO g m) k)) ∧ w' = wo) := hid (by
        have := l18Sum_eq (some ⟨tb, 0, none⟩) n n (fun j => if j < k then tO g m j else 0) 0 k 0 (k : Int) rfl rfl wo (by omega) (by omega) HSB.out.2 HIR.out.2
        rw [rsV_0 (by omega), smq_congr (y := tO g m) k (fun j hj => if_pos hj)] at this; exact this)
      have e1 := smq_tO g m k
      have e2 : smQ m (k + 1) = smQ m k + m k := rfl
      have t1 := gb_tS HGB.out HQ.out k (by omega)
      have m1 := HQ.out k hlt
      obtain ⟨s, hs⟩ : ∃ s, m k - tS g m k = s := ⟨_, rfl⟩
      have hw1 : IntKind.i64.wrap (smQ m (k + 1) - smQ (tO g m) k) = s := by
        rw [show smQ m (k + 1) - smQ (tO g m) k = s by omega]; exact IntWalk.i64_in _ ⟨by omega, by omega⟩
      have hss : tS g m k - m k = -s := by omega
      have f1 := HH.out.2.2.fr k
      have q1 := HH.out.2.2.cell hlt
      rw [if_neg (by omega)] at q1
      have tk1 : True := trivial
      have tk2 : True := trivial
      by_cases hs0 : s ≤ 0
      · have HOK : Hid (tO g m k = 0) := hid (if_neg (by omega))
        have HN2 : Hid (TI wo tb n (fun j => if j < k + 1 then tO g m j else 0)) := hid (HH.out.2.2.congr (fun j hj => by
            by_cases e : j = k
            · subst e; rw [if_neg (by omega), if_pos (by omega), HOK.out]
            · by_cases e2 : j < k
              · rw [if_pos e2, if_pos (by omega)]
              · rw [if_neg e2, if_neg (by omega)]))
        clear e1 e2 t1 m1 hs hss
        generalize smQ m (k + 1) = X1 at *
        generalize smQ (tO g m) k = X2 at *
        go_wp2_with (first
          | (go_at_call 83; clear tk1; refine (HS1.out _ (by omega)).mono ?_; rintro e w5 ⟨rfl, ew⟩; replace ew := ew.symm; subst ew)
          | (go_at_call 83; clear tk2; refine HS2.out.mono ?_; rintro e w5 ⟨rfl, ew⟩; replace ew := ew.symm; subst ew))
        go_roundw
        case rel => exact ⟨k + 1, by omega, by go_num, hid ⟨HH.out.1, HH.out.2.1, HN2.out⟩⟩
        case measure => first | (simp [intOf]; done) | (simp [intOf]; omega)
      · have hs1 : 0 < s := by omega
        have hsm : s ≤ 1000000 := by omega
        have HOK : Hid (tO g m k = g k s) := hid (by
          have : tO g m k = g k (-(tS g m k - m k)) := if_pos (by omega)
          rw [this, hss, Int.neg_neg])
        have g1 := HGB.out k s hlt hs1 hsm
        obtain ⟨Z, hZ⟩ : ∃ Z : Nat, sz = (Z : Int) := ⟨sz.toNat, by omega⟩
        have hw2 : IntKind.i64.wrap ((k : Int) + sz) = (k : Int) + sz := IntWalk.i64_in _ ⟨by omega, by omega⟩
        have HSP : Hid (g k s = s + rsV m n (k + 1) (k + Z)) := hid (by
          rw [HGD.out]; unfold spG rsV
          rw [hZ, show ((Z : Int)).toNat = Z by simp]
          split
          · rfl
          · rw [show min (k + Z) n = k + 1 by omega]; omega)
        have HS3 : Hid (∀ u v, u = ((k + 1 : Nat) : Int) → v = ((k + Z : Nat) : Int) → Calls Try.prog 83 #[.slice ad n cap, .int .i64 u, .int .i64 v] wo fun e w' => e = .returned (.int .i64 (rsV m n (k + 1) (k + Z))) ∧ w' = wo) := hid (fun u v hu hv => l18Sum_eq ad n cap m (k + 1) (k + Z) u v hu hv wo (by omega) (by omega) HSB.out.1 HIR.out.1)
        have hgx := HSP.out
        have hw3 : IntKind.i64.wrap (s + rsV m n (k + 1) (k + Z)) = s + rsV m n (k + 1) (k + Z) := IntWalk.i64_in _ ⟨by omega, by omega⟩
        clear hgx
        have HZ := hid hZ
        clear hZ
        generalize rsV m n (k + 1) (k + Z) = RV at *
        clear e1 e2 t1 m1 hs hss g1
        generalize smQ m (k + 1) = X1 at *
        generalize smQ (tO g m) k = X2 at *
        go_wp2_with (first
          | (go_at_call 83; clear tk1; refine (HS1.out _ (by omega)).mono ?_; rintro e w5 ⟨rfl, ew⟩; replace ew := ew.symm; subst ew)
          | (go_at_call 83; clear tk2; refine HS2.out.mono ?_; rintro e w5 ⟨rfl, ew⟩; replace ew := ew.symm; subst ew)
          | (go_at_call 83; refine (HS3.out _ _ (by omega) (by have := HZ.out; omega)).mono ?_; rintro e w5 ⟨rfl, ew⟩; replace ew := ew.symm; subst ew))
        go_roundw
        case rel => exact ⟨k + 1, by omega, by go_num, hid ⟨HH.out.1.setCell (by have := HTB.out; show _ ≤ tb; omega) _, cb_other HH.out.2.1 _ (by have := HTB.out; omega), (HH.out.2.2.set hlt _).congr (fun j hj => by
            by_cases e : j = k
            · subst e; rw [if_pos rfl, if_pos (by omega), HOK.out, HSP.out]
            · rw [if_neg e]
              by_cases e2 : j < k
              · rw [if_pos e2, if_pos (by omega)]
              · rw [if_neg e2, if_neg (by omega)])⟩⟩
        case measure => first | (simp [intOf]; done) | (simp [intOf]; omega)
    · obtain rfl : k = n := by omega
      have lkk : ¬ (k : Int) < (k : Int) := by omega
      have HT : Hid (TI wo tb k (tO g m) ∧ Below w.heap.size w wo) := hid ⟨HH.out.2.2.congr (fun j hj => by rw [if_pos hj]), HH.out.1⟩
      clear HH
      cases TV
      · go_wp2_with (go_at_call 82; refine (l18List_eq _ k k (tO g m) _ _ hn HT.out.1.row HTV.out).mono ?_; rintro e w6 ⟨rfl, b6⟩; have HB6 : Hid (Below w.heap.size w w6) := hid (bel_on HT.out.2 b6); clear b6)
        go_returns
        exact ⟨_, ⟨_, rfl⟩, .inl rfl, HB6.out⟩
      · go_wp2_with (go_at_call 82; refine (l18List_eq _ k k (tO g m) _ _ hn HT.out.1.row HTV.out).mono ?_; rintro e w6 ⟨rfl, b6⟩; have HB6 : Hid (Below w.heap.size w w6 ∧ TI w6 tb k (tO g m)) := hid ⟨bel_on HT.out.2 b6, HT.out.1.below b6⟩; clear b6)
        go_returns
        have hown := (HB6.out.2.congr (fun j hj => (HO.out j hj).symm)).own HTB.out.1
        exact ⟨_, ⟨_, rfl⟩, hown, HB6.out.1⟩
end Go.Proofs.Ytmbdeafpfdeigaa
