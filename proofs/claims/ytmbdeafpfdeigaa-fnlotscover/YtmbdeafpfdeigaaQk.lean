/- The program's least lots, and what it orders by each kind. -/
import Derived.Test.YtmbdeafpfdeigaaQj
namespace Go.Proofs.Ytmbdeafpfdeigaa
open Go Go.ChangeShapes Go.WideShapes Go.ChangeAt Go.RowKit
set_option linter.unusedVariables false
set_option linter.unusedSimpArgs false

theorem bk_toNat (f : Nat) : ((f : Int)).toNat = f := by simp
set_option maxRecDepth 20000 in
set_option maxHeartbeats 2000000 in
theorem least_any (ki sz su ho : Int) (ad : Option Addr) (n cap : Nat) (m : Nat → Int) (w : World) (hn : n ≤ 40) (hcap : n ≤ cap) (hS : 0 ≤ su ∧ su ≤ 10000000) (hH : 0 ≤ ho ∧ ho ≤ 1000) (hm : ∀ j, j < n → 0 ≤ m j ∧ m j ≤ 1000000) (hr : IR w ad n m) :
    Calls Try.prog 118 #[.agg #[.int .i64 ki, .int .i64 sz, .int .i64 su, .int .i64 ho], .slice ad n cap] w fun e w' => ∃ tb, e = .returned (.slice (some ⟨tb, 0, none⟩) n n) ∧ w.heap.size ≤ tb ∧ TI w' tb n (orL su ho m n) ∧ Below w.heap.size w w' := by
  have HR : Hid (IR w ad n m) := hr
  have hn1 : (n : Int) ≤ 40 := by omega
  have HQ : Hid (∀ j, j < n → 0 ≤ m j ∧ m j ≤ 1000000) := hm
  have HB0 : Hid (Below w.heap.size w (w.alloc (.cells #[.int .i64 ki, .int .i64 sz, .int .i64 su, .int .i64 ho] 48 (0, 0)))) := (Below.refl _ _).alloc (Nat.le_refl _) _
  have HLW : Hid (∀ W, IR W ad n m → Calls Try.prog 142 #[.agg #[.int .i64 ki, .int .i64 sz, .int .i64 su, .int .i64 ho], .slice ad n cap] W fun e w' => ∃ g, e = .returned (.slice (some ⟨g, 0, none⟩) (n + 1) (n + 1)) ∧ WW w' g n (wT su ho m n) ∧ Below W.heap.size W w') := hid (fun W h => leastWays_any ki sz su ho ad n cap m W hn hS hH hm h)
  have hmk := mkI n (by omega)
  clear hr hS hH hm
  go_enter Try.func118, Try.ntmps118
  go_wp2_with (go_at_call 142; refine (HLW.out _ (HR.out.below HB0.out)).mono ?_; rintro e w1 ⟨g, rfl, hw1, b1⟩; have HB1 : Hid (Below w.heap.size w w1) := hid (bel_on HB0.out b1); have HW1 : Hid (WW w1 g n (wT su ho m n)) := hw1; clear hw1 b1 HB0 HLW)
  have HGT : Hid (g < w1.heap.size ∧ w.heap.size ≤ w1.heap.size) := hid ⟨HW1.out.lt, HB1.out.size⟩
  have HST : Hid (Below w.heap.size w (w1.alloc (.cells (zeros n) 3)) ∧ WW (w1.alloc (.cells (zeros n) 3)) g n (wT su ho m n) ∧ TI (w1.alloc (.cells (zeros n) 3)) w1.heap.size n (fun j => if n ≤ j then orL su ho m n j else 0)) := hid ⟨HB1.out.alloc HB1.out.size _, HW1.out.below ((Below.refl _ _).alloc (Nat.le_refl _) _), (TI.made w1 n).congr (fun j hj => by rw [if_neg (by omega)])⟩
  generalize hWV : w1.alloc (.cells (zeros n) 3) = WV at HST ⊢
  obtain ⟨tb, htb⟩ : ∃ x, w1.heap.size = x := ⟨_, rfl⟩
  rw [htb] at HST HGT ⊢
  clear hWV htb HB1 HW1 hmk
  go_loopw [7] (fun u wr => ∃ E : Nat, E ≤ n ∧ u = .int .i64 (E : Int) ∧ Hid (Below w.heap.size w wr ∧ WW wr g n (wT su ho m n) ∧ TI wr tb n (fun j => if E ≤ j then orL su ho m n j else 0) ∧ ∀ j, j < E → orL su ho m n j = orL su ho m E j)) (fun u _ => (intOf u).toNat)
  case atStart => exact ⟨n, Nat.le_refl _, rfl, hid ⟨HST.out.1, HST.out.2.1, HST.out.2.2, fun j hj => rfl⟩⟩
  case round =>
    clear HST
    obtain ⟨E, hE, rfl, HH⟩ := hrel
    obtain ⟨wo, rfl⟩ : ∃ x, x = wr := ⟨wr, rfl⟩
    have hE1 : (E : Int) < (n : Int) + 1 := by omega
    obtain ⟨_, t2, _, _⟩ := HH.out.2.1.cell (e := E) hE
    rw [wT_late su ho m E n hE] at t2
    rcases wT_last su ho m E E with hnone | ⟨f, hf, hf1, hf2, _⟩
    · rw [hnone] at t2
      have HZ : Hid (TI wo tb n (orL su ho m n) ∧ Below w.heap.size w wo) := hid ⟨HH.out.2.2.1.congr (fun j hj => by
        by_cases q : E ≤ j
        · rw [if_pos q]
        · rw [if_neg q, HH.out.2.2.2 j (by omega), orL_none hnone]), HH.out.1⟩
      clear hnone
      go_wp2
      go_returns
      exact ⟨_, rfl, by have := HGT.out; omega, HZ.out.1, HZ.out.2⟩
    · rw [hf] at t2
      have hne2 : ((f : Int) != -1) = true := by first | (simp; done) | (simp; omega)
      have hfn : (f : Int) < (n : Int) := by omega
      have hfE : (f : Int) ≤ (E : Int) := by omega
      have hEc : (E : Int) ≤ (cap : Int) := by omega
      have hcf : ¬ cap = f := by omega
      obtain ⟨kb, off, rfl, hkb⟩ := HR.out.addr (by omega)
      have HSUM : Hid (Calls Try.prog 87 #[.slice (some ⟨kb, off + f, none⟩) (E - f) (cap - f)] wo fun e w' => e = .returned (.int .i64 (smQ m E - smQ m f)) ∧ w' = wo) := hid (by
        have := sum_any (some ⟨kb, off + f, none⟩) (E - f) (cap - f) (fun q => m (f + q)) wo ⟨by omega, fun j hj => by have := HQ.out (f + j) (by omega); show -100000000 ≤ m (f + j) ∧ m (f + j) ≤ 100000000; omega⟩ (slice_IR (HR.out.below HH.out.1) (by omega) hE)
        rw [smq_cut, show f + (E - f) = E by omega] at this; exact this)
      have HOS : Hid (∀ j, orL su ho m E j = if j = f then smQ m E - smQ m f else orL su ho m f j) := hid (orL_step hf)
      have q1 := HH.out.2.2.1.cell (k := f) (by omega)
      have q2 := HH.out.2.2.1.fr f
      rw [if_neg (by omega)] at q1
      have HN : Hid (Below w.heap.size w (wo.setCell ⟨tb, f, none⟩ (.int .i64 (smQ m E - smQ m f))) ∧ WW (wo.setCell ⟨tb, f, none⟩ (.int .i64 (smQ m E - smQ m f))) g n (wT su ho m n) ∧ TI (wo.setCell ⟨tb, f, none⟩ (.int .i64 (smQ m E - smQ m f))) tb n (fun j => if f ≤ j then orL su ho m n j else 0) ∧ ∀ j, j < f → orL su ho m n j = orL su ho m f j) := hid ⟨HH.out.1.setCell (by have := HGT.out; show _ ≤ tb; omega) _, HH.out.2.1.other _ (by have := HGT.out; omega), (HH.out.2.2.1.set (k := f) (by omega) _).congr (fun j hj => by
          by_cases q : j = f
          · subst q; rw [if_pos rfl, if_pos (Nat.le_refl _), HH.out.2.2.2 j hf2, HOS.out, if_pos rfl]
          · rw [if_neg q]
            by_cases q2 : E ≤ j
            · rw [if_pos q2, if_pos (by omega)]
            · rw [if_neg q2]
              by_cases q3 : f ≤ j
              · rw [if_pos q3, HH.out.2.2.2 j (by omega), HOS.out, if_neg q, orL_past su ho m f f (Nat.le_refl _) j q3]
              · rw [if_neg q3]), fun j hj => by rw [HH.out.2.2.2 j (by omega), HOS.out, if_neg (by omega)]⟩
      have t3 : (wo.setCell ⟨tb, f, none⟩ (.int .i64 (smQ m E - smQ m f))).cell? ⟨g, E * 2 + 1, none⟩ = some (.int .i64 (f : Int)) := by
        have := (HN.out.2.1.cell (e := E) hE).2.1
        rw [wT_late su ho m E n hE, hf] at this; exact this
      clear HH hf HOS
      generalize smQ m E - smQ m f = SU at *
      go_wp2_with (go_at_call 87; refine HSUM.out.mono ?_; rintro e w2 ⟨rfl, ew⟩; replace ew := ew.symm; subst ew)
      go_roundw
      case rel => exact ⟨f, by omega, by first | rfl | go_num, HN⟩
      case measure => first | (simp [intOf]; done) | (simp [intOf]; omega)
end Go.Proofs.Ytmbdeafpfdeigaa
