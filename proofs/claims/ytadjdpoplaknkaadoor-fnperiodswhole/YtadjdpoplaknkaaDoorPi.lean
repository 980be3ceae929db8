/- The contract of the program's Periods. -/
import Derived.Test.YtadjdpoplaknkaaDoorPp
import Derived.Test.YtadjdpoplaknkaaDoorPe
import Derived.Test.YtadjdpoplaknkaaDoorFr
namespace Go.Proofs.YtadjdpoplaknkaaDoor
open Go.ChangeShapes Go.WideShapes Go.ChangeAt Go.RowKit
set_option linter.unusedVariables false
set_option linter.unusedSimpArgs false

theorem QL.below {B : Nat} {w w' : World} (h : QL w) (t : Below B w w') (hB : 1 < B) : QL w' := by
  have e : ∀ o, w'.cell? ⟨1, o, none⟩ = w.cell? ⟨1, o, none⟩ := fun o => World.cell?_of_block (w := w) (t.block 1 hB)
  unfold QL
  simp only [e]
  exact h

theorem dayOrNone_any (e : Int) (w : World) : Calls Tryd.prog 55 #[.int .i64 e] w fun r w' => r = .returned (.int .i64 (dn e)) ∧ w' = w := by
  by_cases h : 0 ≤ e ∧ e ≤ 40000
  · have hd := dayB_t h
    have hv : dn e = e := if_pos h
    rw [hv]; clear hv
    go_enter Tryd.func55, Tryd.ntmps55
    go_wp2_with (go_at_call 39; refine (isDay_any _ _).mono ?_; rintro e w' ⟨rfl, rfl⟩; rw [hd])
    go_returns
    exact ⟨rfl, rfl⟩
  · have hd := dayB_f h
    have hv : dn e = -1 := if_neg h
    rw [hv]; clear hv
    go_enter Tryd.func55, Tryd.ntmps55
    go_wp2_with (go_at_call 39; refine (isDay_any _ _).mono ?_; rintro e w' ⟨rfl, rfl⟩; rw [hd])
    go_returns
    exact ⟨rfl, rfl⟩

set_option maxHeartbeats 1000000 in
theorem lastOfMonth_any (f : Int) (w : World) (ht : ML w) (hp : 0 < w.heap.size) :
    Calls Tryd.prog 54 #[.int .i64 f] w fun e w' => e = .returned (.int .i64 (pEnd 1 f 0)) ∧ Below w.heap.size w w' := by
  have HT : Hid (ML w) := ht
  clear ht
  have hf2 := fld2
  obtain ⟨t, hT⟩ : ∃ t, t = dat f := ⟨_, rfl⟩
  obtain ⟨ta, tb, tc⟩ := t
  have k1 : dateA (dat f) = .agg #[.int .i64 ta, .int .i64 tb, .int .i64 tc] := by rw [← hT]; rfl
  by_cases h : tc = 1
  · rw [p1 (by rw [← hT]; exact h)]
    have hc : (tc == 1) = true := by simpa using h
    clear hT h
    go_enter Tryd.func54, Tryd.ntmps54
    go_wp2_with (first
      | (go_at_call 14; refine (implDateOf_any _ _ HT.out hp).mono ?_; rintro e w1 ⟨rfl, b1⟩; rw [k1])
      | (go_at_call 15; refine (implMonthEnd_any _ _ (HT.out.below b1 hp) (by have := b1.size; omega)).mono ?_; rintro e w2 ⟨rfl, b2⟩))
    go_returns
    exact ⟨rfl, bel_on b1 b2⟩
  · rw [p1n (by rw [← hT]; exact h)]
    have hc : (tc == 1) = false := by simpa using h
    clear hT h
    go_enter Tryd.func54, Tryd.ntmps54
    go_wp2_with (first
      | (go_at_call 14; refine (implDateOf_any _ _ HT.out hp).mono ?_; rintro e w1 ⟨rfl, b1⟩; rw [k1]))
    go_returns
    exact ⟨rfl, b1⟩

theorem pEnd1_any (f : Int) (i j : Nat) : pEnd 1 f i = pEnd 1 f j := by simp [pEnd]

set_option maxHeartbeats 1000000 in
theorem periodEnd_any (kind f : Int) (j : Nat) (w : World) (ht : ML w) (hq : QL w) (hj : (j : Int) ≤ 60) (f0 : 0 ≤ f) (f1 : f ≤ 40001) :
    Calls Tryd.prog 46 #[.int .i64 kind, .int .i64 f, .int .i64 (j : Int)] w fun e w' => e = .returned (.int .i64 (pEnd kind f j)) ∧ Below w.heap.size w w' := by
  have HT : Hid (ML w) := ht
  have hp := ht.pos
  obtain ⟨q0, q1, q2⟩ := hq
  clear ht
  by_cases c1 : kind = 1
  · subst c1
    rw [pEnd1_any f j 0]
    go_enter Tryd.func46, Tryd.ntmps46
    go_wp2_with (go_at_call 54; refine (lastOfMonth_any _ _ HT.out hp).mono ?_; rintro e w1 ⟨rfl, b1⟩)
    go_returns
    exact ⟨rfl, b1⟩
  · have d1 : (kind == 1) = false := by simpa using c1
    by_cases c2 : kind = 2
    · subst c2
      clear c1
      have hm : j % 3 = 0 ∨ j % 3 = 1 ∨ j % 3 = 2 := by omega
      rcases hm with hm | hm | hm
      · rw [p2n (by omega)]
        have em : (j : Int) % 3 = 0 := by omega
        clear hm
        go_enter Tryd.func46, Tryd.ntmps46
        go_wp2_with (go_at_call 55; refine (dayOrNone_any _ _).mono ?_; rintro e w1 ⟨rfl, rfl⟩)
        go_returns
        exact ⟨rfl, Below.refl _ _⟩
      · rw [p2n (by omega)]
        have em : (j : Int) % 3 = 1 := by omega
        clear hm
        go_enter Tryd.func46, Tryd.ntmps46
        go_wp2_with (go_at_call 55; refine (dayOrNone_any _ _).mono ?_; rintro e w1 ⟨rfl, rfl⟩)
        go_returns
        exact ⟨rfl, Below.refl _ _⟩
      · rw [p2 hm]
        have em : (j : Int) % 3 = 2 := by omega
        clear hm
        go_enter Tryd.func46, Tryd.ntmps46
        go_wp2_with (go_at_call 55; refine (dayOrNone_any _ _).mono ?_; rintro e w1 ⟨rfl, rfl⟩)
        go_returns
        exact ⟨rfl, Below.refl _ _⟩
    · have d2 : (kind == 2) = false := by simpa using c2
      by_cases c3 : kind = 3
      · subst c3
        clear c1 c2
        rw [p3]
        go_enter Tryd.func46, Tryd.ntmps46
        go_wp2_with (go_at_call 55; refine (dayOrNone_any _ _).mono ?_; rintro e w1 ⟨rfl, rfl⟩)
        go_returns
        exact ⟨rfl, Below.refl _ _⟩
      · have d3 : (kind == 3) = false := by simpa using c3
        rw [pn (by omega)]
        clear c1 c2 c3
        go_enter Tryd.func46, Tryd.ntmps46
        go_wp2
        go_returns
        exact ⟨rfl, Below.refl _ _⟩

theorem mk35 (n : Nat) (h : (n : Int) ≤ 1048576) (w : World) : (Instr.makeSlice 35 (.int .i64 (n : Int)) (.int .i64 (n : Int))).run Tryd.prog w = .ok (.slice (some ⟨w.heap.size, 0, none⟩) n n) (w.alloc (.cells (zeros2 n) 38)) := by
  obtain ⟨i, hi⟩ : ∃ i, Tryd.prog.info? 38 = some i := ⟨_, rfl⟩
  have hz : i.zero = some (.agg #[.int .i64 0, .int .i64 0]) := by
    have : (Tryd.prog.info? 38).bind (·.zero) = some (.agg #[.int .i64 0, .int .i64 0]) := by kernel_rfl
    rw [hi] at this; exact this
  have hs : i.size = 2 := by
    have : (Tryd.prog.info? 38).map (·.size) = some 2 := by kernel_rfl
    rw [hi] at this; simpa using this
  have hb : i.bytes = 16 := by
    have : (Tryd.prog.info? 38).map (·.bytes) = some 16 := by kernel_rfl
    rw [hi] at this; simpa using this
  have hr := run_make (P := Tryd.prog) w 35 38 i (.agg #[.int .i64 0, .int .i64 0]) Tryd.underlying35 hi hz .i64 .i64 n n (by omega) (by omega) (by rw [hb]; omega) (by omega)
  simp only [Int.toNat_natCast, hs] at hr
  exact hr

/-- What Periods leaves: an own row of the periods, or an empty one. -/
def Pers (kind first count : Int) (v : Value) (w w' : World) : Prop :=
  (perOk kind first count ∧ ∃ (b n cap : Nat) (cs : Array Value), (n : Int) = count ∧ v = .slice (some ⟨b, 0, none⟩) n cap ∧ w.heap.size ≤ b ∧ CB w' b cs 38 ∧ n * 2 ≤ cs.size ∧ (∀ j, j < n → cs[j * 2]? = some (.int .i64 (fst kind first j)) ∧ cs[j * 2 + 1]? = some (.int .i64 (lst kind first j)))) ∨
  (¬ perOk kind first count ∧ ∃ (ad : Option Addr) (cap : Nat), v = .slice ad 0 cap)

set_option maxHeartbeats 2000000 in
theorem implPeriods_any (kind first count : Int) (w : World) (ht : ML w) (hq : QL w) :
    Calls Tryd.prog 21 #[.int .i64 kind, .int .i64 first, .int .i64 count] w fun e w' => ∃ v, e = .returned v ∧ Pers kind first count v w w' ∧ Below w.heap.size w w' := by
  have HT : Hid (ML w) := ht
  have HQ : Hid (QL w) := hq
  have hp := ht.pos
  have hp1 := hq.pos
  clear ht hq
  by_cases hf : 0 ≤ first ∧ first ≤ 40000
  · have db := dayB_t hf
    by_cases hc : 1 ≤ count ∧ count ≤ 60
    · obtain ⟨f0, f1⟩ := hf
      obtain ⟨n, rfl⟩ : ∃ n : Nat, count = (n : Int) := ⟨count.toNat, by omega⟩
      obtain ⟨c0, c1⟩ := hc
      have hmk := mk35 n (by omega)
      go_enter Tryd.func21, Tryd.ntmps21
      go_wp2_with (go_at_call 39; refine (isDay_any _ _).mono ?_; rintro e w' ⟨rfl, ew⟩; replace ew := ew.symm; subst ew; rw [db])
      go_loopw [1, 26] (fun f i wr => ∃ (k : Nat) (F : Int) (cs : Array Value), k ≤ n ∧ f = .int .i64 F ∧ Hid (F = fst kind first k) ∧ i = .int .i64 (k : Int) ∧ CB wr w.heap.size cs 38 ∧ cs.size = n * 2 ∧ (∀ j, j < k → cs[j * 2]? = some (.int .i64 (fst kind first j)) ∧ cs[j * 2 + 1]? = some (.int .i64 (lst kind first j))) ∧ Hid (∀ j, j < k → 0 ≤ lst kind first j) ∧ Below w.heap.size w wr) (fun _ i _ => n - (intOf i).toNat)
      case atStart => exact ⟨0, first, zeros2 n, Nat.zero_le _, rfl, rfl, rfl, CB.new _ _, zeros2_size _, fun j hj => by omega, fun j hj => by omega, (Below.refl _ _).alloc (Nat.le_refl _) _⟩
      case round =>
        obtain ⟨k, F, cs, hk, rfl, hF, rfl, hC, hsz, hcs, hL, hB⟩ := hrel
        have hFb : 0 ≤ F ∧ F ≤ 40001 := by rw [hF.out]; exact fst_bd kind first ⟨f0, f1⟩ k
        obtain ⟨F0, F1⟩ := hFb
        by_cases hlt : k < n
        · have hk60 : (k : Int) ≤ 60 := by omega
          have MT : Hid (ML wr) := HT.out.below hB hp
          have MQ : Hid (QL wr) := HQ.out.below hB hp1
          obtain ⟨E, hE⟩ : ∃ E, pEnd kind F k = E := ⟨_, rfl⟩
          have hEl : Hid (lst kind first k = E) := by unfold Hid lst; rw [← hF.out]; exact hE
          have hEb := pEnd_bd kind F k
          rw [hE] at hEb
          by_cases hneg : E < 0
          · have HN : Hid (¬ perOk kind first (n : Int)) := fun g => by have := g.2.2 k (by omega); rw [hEl.out] at this; omega
            have HB : Hid (Below w.heap.size w wr) := hB
            clear hC hsz hcs hB
            go_wp2_with (go_at_call 46; refine (periodEnd_any _ _ _ _ MT.out MQ.out hk60 F0 F1).mono ?_; rintro e w1 ⟨rfl, b1⟩; rw [hE]; replace b1 := bel_on HB.out b1)
            go_returns
            exact ⟨_, rfl, .inr ⟨HN.out, _, _, rfl⟩, by first | exact b1 | exact b1.alloc b1.size _⟩
          · obtain ⟨v1, d1⟩ : ∃ v, cs[k * 2]? = some v := ⟨cs[k * 2]'(by omega), Array.getElem?_eq_getElem (by omega)⟩
            obtain ⟨v2, d2⟩ : ∃ v, cs[k * 2 + 1]? = some v := ⟨cs[k * 2 + 1]'(by omega), Array.getElem?_eq_getElem (by omega)⟩
            have HC : Hid (CB wr w.heap.size cs 38) := hC
            have HS : Hid (cs.size = n * 2) := hsz
            have HCS : Hid (∀ j, j < k → cs[j * 2]? = some (.int .i64 (fst kind first j)) ∧ cs[j * 2 + 1]? = some (.int .i64 (lst kind first j))) := hcs
            have HB : Hid (Below w.heap.size w wr) := hB
            clear hC hsz hcs hB
            go_wp2_with (go_at_call 46; refine (periodEnd_any _ _ _ _ MT.out MQ.out hk60 F0 F1).mono ?_; rintro e w1 ⟨rfl, b1⟩; rw [hE]; have X1 : CB w1 w.heap.size cs 38 := HC.out.below b1 HC.out.lt; have x1 := (X1.cell (k * 2)).trans d1; have x2 := (X1.cell (k * 2 + 1)).trans d2; have g1 := X1.fr (k * 2); have g2 := X1.fr (k * 2 + 1); have HX : Hid (CB w1 w.heap.size cs 38) := X1; have HB1 : Hid (Below w.heap.size w w1) := bel_on HB.out b1; clear X1 b1)
            go_roundw
            case rel =>
              refine ⟨k + 1, _, (cs.setIfInBounds (k * 2) (.int .i64 F)).setIfInBounds (k * 2 + 1) (.int .i64 E), by omega, rfl, by unfold Hid; rw [fst_succ, hEl.out], by go_num, (HX.out.set _ _).set _ _, by simp [HS.out], fun j hj => ?_, fun j hj => ?_, (HB1.out.setCell (by simp) _).setCell (by simp) _⟩
              · have hs := HS.out
                by_cases hjk : j = k
                · subst hjk
                  constructor
                  · rw [Array.getElem?_setIfInBounds, if_neg (by omega), Array.getElem?_setIfInBounds, if_pos rfl, if_pos (by omega), hF.out]
                  · rw [Array.getElem?_setIfInBounds, if_pos rfl, if_pos (by simp; omega), hEl.out]
                · have hj2 := HCS.out j (by omega)
                  constructor
                  · rw [Array.getElem?_setIfInBounds, if_neg (by omega), Array.getElem?_setIfInBounds, if_neg (by omega)]; exact hj2.1
                  · rw [Array.getElem?_setIfInBounds, if_neg (by omega), Array.getElem?_setIfInBounds, if_neg (by omega)]; exact hj2.2
              · by_cases hjk : j = k
                · subst hjk; rw [hEl.out]; omega
                · exact hL.out j (by omega)
            case measure => simp [intOf]; omega
        · obtain rfl : k = n := by omega
          have HP : Hid (Pers kind first (k : Int) (.slice (some ⟨w.heap.size, 0, none⟩) k k) w wr) := .inl ⟨⟨⟨f0, f1⟩, ⟨c0, c1⟩, fun j hj => hL.out j (by omega)⟩, w.heap.size, k, k, cs, rfl, rfl, Nat.le_refl _, hC, by omega, hcs⟩
          have HB : Hid (Below w.heap.size w wr) := hB
          clear hC hsz hcs hB
          go_wp2
          go_returns
          exact ⟨_, rfl, HP.out, HB.out⟩
    · have HN : Hid (¬ perOk kind first count) := fun g => hc g.2.1
      by_cases hc1 : count < 1
      · clear hc
        go_enter Tryd.func21, Tryd.ntmps21
        go_wp2_with (go_at_call 39; refine (isDay_any _ _).mono ?_; rintro e w' ⟨rfl, ew⟩; replace ew := ew.symm; subst ew; rw [db])
        go_returns
        exact ⟨_, rfl, .inr ⟨HN.out, _, _, rfl⟩, by go_grown⟩
      · have hc2 : 60 < count := by omega
        clear hc hc1
        go_enter Tryd.func21, Tryd.ntmps21
        go_wp2_with (go_at_call 39; refine (isDay_any _ _).mono ?_; rintro e w' ⟨rfl, ew⟩; replace ew := ew.symm; subst ew; rw [db])
        go_returns
        exact ⟨_, rfl, .inr ⟨HN.out, _, _, rfl⟩, by go_grown⟩
  · have HN : Hid (¬ perOk kind first count) := fun g => hf g.1
    have db := dayB_f hf
    clear hf
    go_enter Tryd.func21, Tryd.ntmps21
    go_wp2_with (go_at_call 39; refine (isDay_any _ _).mono ?_; rintro e w' ⟨rfl, ew⟩; replace ew := ew.symm; subst ew; rw [db])
    go_returns
    exact ⟨_, rfl, .inr ⟨HN.out, _, _, rfl⟩, by go_grown⟩

end Go.Proofs.YtadjdpoplaknkaaDoor
