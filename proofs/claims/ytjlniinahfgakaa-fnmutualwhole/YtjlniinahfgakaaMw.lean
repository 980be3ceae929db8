/- Columns; the weights of a service. -/
import Derived.Test.YtjlniinahfgakaaMz
namespace Go.Proofs.Ytjlniinahfgakaa
open Go Go.ChangeShapes Go.WideShapes Go.ChangeAt Go.RowKit
set_option linter.unusedVariables false
set_option linter.unusedSimpArgs false

/-- The place p of the first n lists. -/
def cF (n : Nat) (z : Nat → Nat → Int) (p : Nat) : Nat → Int := fun i => if i < n then z i p else 0
def TB (w : World) (b : Nat) (g : Nat → Int) : Prop := CB w b #[.int .i64 (g 0), .int .i64 (g 1), .int .i64 (g 2)] 102
theorem TB.congr {w : World} {b : Nat} {g h : Nat → Int} (H : TB w b g) (e : ∀ i, i < 3 → g i = h i) : TB w b h := by
  unfold TB at H ⊢; rw [← e 0 (by omega), ← e 1 (by omega), ← e 2 (by omega)]; exact H
theorem TB.put {w : World} {b : Nat} {g : Nat → Int} (H : TB w b g) {i : Nat} (hi : i < 3) (v : Int) : TB (w.setCell ⟨b, i, none⟩ (.int .i64 v)) b (upd g i v) := by
  have := CB.set H i (.int .i64 v)
  unfold TB
  match i, hi with
  | 0, _ => exact this
  | 1, _ => exact this
  | 2, _ => exact this
  | i + 3, h => omega
theorem TB.cellAt {w : World} {b : Nat} {g : Nat → Int} (H : TB w b g) {i : Nat} (hi : i < 3) : w.cell? ⟨b, i, none⟩ = some (.int .i64 (g i)) := by
  rw [CB.cell H]
  match i, hi with
  | 0, _ => rfl
  | 1, _ => rfl
  | 2, _ => rfl
  | i + 3, h => omega

set_option maxRecDepth 20000 in
set_option maxHeartbeats 4000000 in
theorem columnOf_any (ad : Option Addr) (n cap : Nat) (ln : Nat → Nat) (z : Nat → Nat → Int) (p : Nat) (w : World) (hn : n ≤ 3) (hl : ∀ i, i < n → p < ln i ∧ (ln i : Int) ≤ 1048576) (H : SR w ad n ln z) :
    Calls Try.prog 89 #[.slice ad n cap, .int .i64 (p : Int)] w fun e w' => e = .returned (.agg #[.int .i64 (cF n z p 0), .int .i64 (cF n z p 1), .int .i64 (cF n z p 2)]) ∧ Below w.heap.size w w' := by
  have HSR : Hid (SR w ad n ln z) := H
  have HL : Hid (∀ i, i < n → p < ln i ∧ (ln i : Int) ≤ 1048576) := hl
  have hn2 : (n : Int) ≤ 3 := by omega
  have HR0 : Hid (CB ((w.alloc (.cells #[.int .i64 0, .int .i64 0, .int .i64 0] 102 (0, 0))).alloc (.cells #[.int .i64 0, .int .i64 0, .int .i64 0] 102 (0, 0))) w.heap.size #[.int .i64 0, .int .i64 0, .int .i64 0] 102) := (CB.new _ _).alloc _
  have HM0 : Hid (TB ((w.alloc (.cells #[.int .i64 0, .int .i64 0, .int .i64 0] 102 (0, 0))).alloc (.cells #[.int .i64 0, .int .i64 0, .int .i64 0] 102 (0, 0))) (w.heap.size + 1) (cF 0 z p)) := CB.newAt (by simp) _ _
  have HB0 : Hid (Below w.heap.size w ((w.alloc (.cells #[.int .i64 0, .int .i64 0, .int .i64 0] 102 (0, 0))).alloc (.cells #[.int .i64 0, .int .i64 0, .int .i64 0] 102 (0, 0)))) := ((Below.refl _ _).alloc (Nat.le_refl _) _).alloc (by simp) _
  clear H hl
  go_enter Try.func89, Try.ntmps89
  go_wp2
  go_loopw [6, 7, 11] (fun _ _ v wr => ∃ (i : Nat), i ≤ n ∧ v = .int .i64 (i : Int) ∧ Hid (CB wr w.heap.size #[.int .i64 0, .int .i64 0, .int .i64 0] 102 ∧ TB wr (w.heap.size + 1) (cF i z p) ∧ Below w.heap.size w wr)) (fun _ _ v _ => n - (intOf v).toNat)
  case atStart => exact ⟨0, by omega, rfl, HR0.out, HM0.out, HB0.out⟩
  case round =>
    clear HR0 HM0 HB0
    obtain ⟨i, hi, rfl, HV⟩ := hrel
    by_cases hlti : i < n
    · have hi3 : i < 3 := by omega
      have hlti2 : (i : Int) < (n : Int) := by omega
      obtain ⟨kb, off, rfl, hkb⟩ := HSR.out.addr (by omega)
      obtain ⟨a, cp, c1, r1⟩ := HSR.out.at HV.out.2.2 hlti
      have hll := HL.out i hlti
      obtain ⟨ka, oa, rfl, hka⟩ := r1.addr (by omega)
      have cx := r1.cell hll.1
      obtain ⟨x, hx⟩ : ∃ x, z i p = x := ⟨_, rfl⟩
      obtain ⟨lni, hlni⟩ : ∃ x, ln i = x := ⟨_, rfl⟩
      rw [hx] at cx
      rw [hlni] at c1 hll
      obtain ⟨hll1, hll2⟩ := hll
      have hll3 : (p : Int) < (lni : Int) := by omega
      have HX : Hid (z i p = x) := hx
      have t1 := HV.out.2.1.cellAt hi3
      have t2 := CB.fr HV.out.2.1 i
      have HN : Hid (CB (wr.setCell ⟨w.heap.size + 1, i, none⟩ (.int .i64 x)) w.heap.size #[.int .i64 0, .int .i64 0, .int .i64 0] 102 ∧ TB (wr.setCell ⟨w.heap.size + 1, i, none⟩ (.int .i64 x)) (w.heap.size + 1) (cF (i + 1) z p) ∧ Below w.heap.size w (wr.setCell ⟨w.heap.size + 1, i, none⟩ (.int .i64 x))) :=
        ⟨HV.out.1.other _ (by omega), (HV.out.2.1.put hi3 x).congr (fun q _ => by
          unfold cF
          by_cases e : q = i
          · subst e; rw [upd_eq, if_pos (by omega), HX.out]
          · rw [upd_ne e]
            by_cases e2 : q < i
            · rw [if_pos e2, if_pos (show q < i + 1 by omega)]
            · rw [if_neg e2, if_neg (show ¬ q < i + 1 by omega)]), HV.out.2.2.setCell (by simp) _⟩
      clear HV r1 hx hlni hka
      go_wp2
      go_roundw
      case rel => exact ⟨i + 1, by omega, by go_num, HN⟩
      case measure => simp [intOf]; omega
    · obtain rfl : i = n := by omega
      have lkk : ¬ (i : Int) < (i : Int) := by omega
      have l0 := HV.out.2.1.cellAt (i := 0) (by omega)
      have l1 := HV.out.2.1.cellAt (i := 1) (by omega)
      have l2 := HV.out.2.1.cellAt (i := 2) (by omega)
      have q0 := (HV.out.1.cell 0).trans rfl
      have q1 := (HV.out.1.cell 1).trans rfl
      have q2 := (HV.out.1.cell 2).trans rfl
      have g0 := HV.out.1.fr 0
      have g1 := HV.out.1.fr 1
      have g2 := HV.out.1.fr 2
      have hX := ((HV.out.1.set 0 (.int .i64 (cF i z p 0))).set 1 (.int .i64 (cF i z p 1))).set 2 (.int .i64 (cF i z p 2))
      have hZ := ((HV.out.2.2.setCell (p := ⟨w.heap.size, 0, none⟩) (by simp) (.int .i64 (cF i z p 0))).setCell (p := ⟨w.heap.size, 1, none⟩) (by simp) (.int .i64 (cF i z p 1))).setCell (p := ⟨w.heap.size, 2, none⟩) (by simp) (.int .i64 (cF i z p 2))
      clear HV
      go_wp2
      generalize (World.setCell _ _ _) = W5 at hX hZ ⊢
      have e0 := (hX.cell 0).trans rfl
      have e1 := (hX.cell 1).trans rfl
      have e2 := (hX.cell 2).trans rfl
      refine bodyPost_ret (by simp [results, Try.results89, go_sem, e0, e1, e2]; try rfl) rfl ?_
      exact ⟨rfl, hZ⟩

/-- A column put in. -/
def pC (f : Nat → Nat → Int) (s : Nat) (g : Nat → Int) : Nat → Nat → Int := fun i j => if j = s then g i else f i j
def pK (f : Nat → Nat → Int) (s : Nat) (g : Nat → Int) (k : Nat) : Nat → Nat → Int := fun i j => if j = s ∧ i < k then g i else f i j
set_option maxRecDepth 20000 in
set_option maxHeartbeats 4000000 in
theorem withColumn_any (f : Nat → Nat → Int) (s : Nat) (g : Nat → Int) (w : World) (hs : s < 3) :
    Calls Try.prog 88 #[.agg (mcs f), .int .i64 (s : Int), .agg #[.int .i64 (g 0), .int .i64 (g 1), .int .i64 (g 2)]] w fun e w' => e = .returned (.agg (mcs (pC f s g))) ∧ Below w.heap.size w w' := by
  have hs2 : (s : Int) < 3 := by omega
  have HM0 : Hid (MB (((w.alloc (.cells (mcs f) 104 (0, 0))).alloc (.cells #[.int .i64 (g 0), .int .i64 (g 1), .int .i64 (g 2)] 102 (0, 0))).alloc (.cells #[.int .i64 0, .int .i64 0, .int .i64 0, .int .i64 0, .int .i64 0, .int .i64 0, .int .i64 0, .int .i64 0, .int .i64 0] 104 (0, 0))) w.heap.size (pK f s g 0)) := MB.congr (f := f) (((CB.new _ _).alloc _).alloc _) (fun i j _ _ => by unfold pK; rw [if_neg (by omega)])
  have HT0 : Hid (TB (((w.alloc (.cells (mcs f) 104 (0, 0))).alloc (.cells #[.int .i64 (g 0), .int .i64 (g 1), .int .i64 (g 2)] 102 (0, 0))).alloc (.cells #[.int .i64 0, .int .i64 0, .int .i64 0, .int .i64 0, .int .i64 0, .int .i64 0, .int .i64 0, .int .i64 0, .int .i64 0] 104 (0, 0))) (w.heap.size + 1) g) := (CB.newAt (by simp) _ _).alloc _
  have HR0 : Hid (CB (((w.alloc (.cells (mcs f) 104 (0, 0))).alloc (.cells #[.int .i64 (g 0), .int .i64 (g 1), .int .i64 (g 2)] 102 (0, 0))).alloc (.cells #[.int .i64 0, .int .i64 0, .int .i64 0, .int .i64 0, .int .i64 0, .int .i64 0, .int .i64 0, .int .i64 0, .int .i64 0] 104 (0, 0))) (w.heap.size + 1 + 1) #[.int .i64 0, .int .i64 0, .int .i64 0, .int .i64 0, .int .i64 0, .int .i64 0, .int .i64 0, .int .i64 0, .int .i64 0] 104) := CB.newAt (by simp) _ _
  have HB0 : Hid (Below w.heap.size w (((w.alloc (.cells (mcs f) 104 (0, 0))).alloc (.cells #[.int .i64 (g 0), .int .i64 (g 1), .int .i64 (g 2)] 102 (0, 0))).alloc (.cells #[.int .i64 0, .int .i64 0, .int .i64 0, .int .i64 0, .int .i64 0, .int .i64 0, .int .i64 0, .int .i64 0, .int .i64 0] 104 (0, 0)))) := (((Below.refl _ _).alloc (Nat.le_refl _) _).alloc (by simp) _).alloc (by simp; omega) _
  have t0 := HT0.out.cellAt (i := 0) (by omega)
  have t1 := HT0.out.cellAt (i := 1) (by omega)
  have t2 := HT0.out.cellAt (i := 2) (by omega)
  unfold mcs at HM0 HT0 HR0 HB0 t0 t1 t2 ⊢
  go_enter Try.func88, Try.ntmps88
  go_wp2
  go_loopw [7, 8, 10] (fun _ _ v wr => ∃ (k : Nat), k ≤ 3 ∧ v = .int .i64 (kI k) ∧ Hid (CB wr (w.heap.size + 1 + 1) #[.int .i64 0, .int .i64 0, .int .i64 0, .int .i64 0, .int .i64 0, .int .i64 0, .int .i64 0, .int .i64 0, .int .i64 0] 104 ∧ MB wr w.heap.size (pK f s g k) ∧ Below w.heap.size w wr)) (fun _ _ v _ => 3 - (intOf v).toNat)
  case atStart => exact ⟨0, by omega, rfl, HR0.out, HM0.out, HB0.out⟩
  case round =>
    clear HR0 HM0 HB0 HT0 t0 t1 t2
    obtain ⟨k, hk, rfl, HV⟩ := hrel
    by_cases hlt : k < 3
    · have HN : Hid (CB (wr.setCell ⟨w.heap.size, k * 3 + s, none⟩ (.int .i64 (g k))) (w.heap.size + 1 + 1) #[.int .i64 0, .int .i64 0, .int .i64 0, .int .i64 0, .int .i64 0, .int .i64 0, .int .i64 0, .int .i64 0, .int .i64 0] 104 ∧ MB (wr.setCell ⟨w.heap.size, k * 3 + s, none⟩ (.int .i64 (g k))) w.heap.size (pK f s g (k + 1)) ∧ Below w.heap.size w (wr.setCell ⟨w.heap.size, k * 3 + s, none⟩ (.int .i64 (g k)))) :=
        ⟨HV.out.1.other _ (by omega), (HV.out.2.1.put hlt hs (g k)).congr (fun p q _ _ => by
          unfold pK; (try dsimp only)
          by_cases e1 : q = s
          · by_cases e2 : p = k
            · subst e2; rw [if_pos ⟨rfl, e1⟩, if_pos ⟨e1, by omega⟩]
            · rw [if_neg (fun h => e2 h.1)]
              by_cases e3 : p < k
              · rw [if_pos ⟨e1, e3⟩, if_pos ⟨e1, by omega⟩]
              · rw [if_neg (fun h => e3 h.2), if_neg (fun h => e3 (by omega))]
          · rw [if_neg (fun h => e1 h.2), if_neg (fun h => e1 h.1), if_neg (fun h => e1 h.1)]), HV.out.2.2.setCell (by simp) _⟩
      have u1 := HV.out.2.1.cellAt hlt hs
      have u2 := CB.fr HV.out.2.1 (k * 3 + s)
      rcases (by omega : k = 0 ∨ k = 1 ∨ k = 2) with rfl | rfl | rfl
      · rw [show kI 0 = 0 from rfl]
        have hix : ∀ W : World, (Instr.index 102 (.agg #[.int .i64 (g 0), .int .i64 (g 1), .int .i64 (g 2)]) (.int .i64 0)).run Try.prog W = .ok (.int .i64 (g 0)) W := fun W => by rfl
        rw [show 0 * 3 + s = s by omega] at u1 u2 HN
        clear HV
        go_wp2
        go_roundw
        case rel => exact ⟨0 + 1, by omega, rfl, HN⟩
        case measure => simp [intOf]
      · rw [show kI 1 = 1 from rfl]
        have hix : ∀ W : World, (Instr.index 102 (.agg #[.int .i64 (g 0), .int .i64 (g 1), .int .i64 (g 2)]) (.int .i64 1)).run Try.prog W = .ok (.int .i64 (g 1)) W := fun W => by rfl
        rw [show 1 * 3 + s = 3 + s by omega] at u1 u2 HN
        clear HV
        go_wp2
        go_roundw
        case rel => exact ⟨1 + 1, by omega, rfl, HN⟩
        case measure => simp [intOf]
      · rw [show kI 2 = 2 from rfl]
        have hix : ∀ W : World, (Instr.index 102 (.agg #[.int .i64 (g 0), .int .i64 (g 1), .int .i64 (g 2)]) (.int .i64 2)).run Try.prog W = .ok (.int .i64 (g 2)) W := fun W => by rfl
        rw [show 2 * 3 + s = 6 + s by omega] at u1 u2 HN
        clear HV
        go_wp2
        go_roundw
        case rel => exact ⟨2 + 1, by omega, rfl, HN⟩
        case measure => simp [intOf]
    · obtain rfl : k = 3 := by omega
      rw [show kI 3 = 3 from rfl]
      have HMF : Hid (MB wr w.heap.size (pC f s g)) := HV.out.2.1.congr (fun i j hi _ => by
        unfold pK pC
        by_cases e : j = s
        · rw [if_pos ⟨e, hi⟩, if_pos e]
        · rw [if_neg (fun h => e h.1), if_neg e])
      have HQ : Hid (CB wr (w.heap.size + 1 + 1) #[.int .i64 0, .int .i64 0, .int .i64 0, .int .i64 0, .int .i64 0, .int .i64 0, .int .i64 0, .int .i64 0, .int .i64 0] 104) := HV.out.1
      have l0 : wr.cell? ⟨w.heap.size, 0, none⟩ = some (.int .i64 (pC f s g 0 0)) := (CB.cell HMF.out 0).trans rfl
      have l1 : wr.cell? ⟨w.heap.size, 1, none⟩ = some (.int .i64 (pC f s g 0 1)) := (CB.cell HMF.out 1).trans rfl
      have l2 : wr.cell? ⟨w.heap.size, 2, none⟩ = some (.int .i64 (pC f s g 0 2)) := (CB.cell HMF.out 2).trans rfl
      have l3 : wr.cell? ⟨w.heap.size, 3, none⟩ = some (.int .i64 (pC f s g 1 0)) := (CB.cell HMF.out 3).trans rfl
      have l4 : wr.cell? ⟨w.heap.size, 4, none⟩ = some (.int .i64 (pC f s g 1 1)) := (CB.cell HMF.out 4).trans rfl
      have l5 : wr.cell? ⟨w.heap.size, 5, none⟩ = some (.int .i64 (pC f s g 1 2)) := (CB.cell HMF.out 5).trans rfl
      have l6 : wr.cell? ⟨w.heap.size, 6, none⟩ = some (.int .i64 (pC f s g 2 0)) := (CB.cell HMF.out 6).trans rfl
      have l7 : wr.cell? ⟨w.heap.size, 7, none⟩ = some (.int .i64 (pC f s g 2 1)) := (CB.cell HMF.out 7).trans rfl
      have l8 : wr.cell? ⟨w.heap.size, 8, none⟩ = some (.int .i64 (pC f s g 2 2)) := (CB.cell HMF.out 8).trans rfl
      have q0 := (HQ.out.cell 0).trans rfl
      have g0 := HQ.out.fr 0
      have q1 := (HQ.out.cell 1).trans rfl
      have g1 := HQ.out.fr 1
      have q2 := (HQ.out.cell 2).trans rfl
      have g2 := HQ.out.fr 2
      have q3 := (HQ.out.cell 3).trans rfl
      have g3 := HQ.out.fr 3
      have q4 := (HQ.out.cell 4).trans rfl
      have g4 := HQ.out.fr 4
      have q5 := (HQ.out.cell 5).trans rfl
      have g5 := HQ.out.fr 5
      have q6 := (HQ.out.cell 6).trans rfl
      have g6 := HQ.out.fr 6
      have q7 := (HQ.out.cell 7).trans rfl
      have g7 := HQ.out.fr 7
      have q8 := (HQ.out.cell 8).trans rfl
      have g8 := HQ.out.fr 8
      have hX := (((((((((HQ.out.set 0 (.int .i64 (pC f s g 0 0))).set 1 (.int .i64 (pC f s g 0 1))).set 2 (.int .i64 (pC f s g 0 2))).set 3 (.int .i64 (pC f s g 1 0))).set 4 (.int .i64 (pC f s g 1 1))).set 5 (.int .i64 (pC f s g 1 2))).set 6 (.int .i64 (pC f s g 2 0))).set 7 (.int .i64 (pC f s g 2 1))).set 8 (.int .i64 (pC f s g 2 2)))
      have hZ := (((((((((HV.out.2.2.setCell (p := ⟨w.heap.size + 1 + 1, 0, none⟩) (by simp; omega) (.int .i64 (pC f s g 0 0))).setCell (p := ⟨w.heap.size + 1 + 1, 1, none⟩) (by simp; omega) (.int .i64 (pC f s g 0 1))).setCell (p := ⟨w.heap.size + 1 + 1, 2, none⟩) (by simp; omega) (.int .i64 (pC f s g 0 2))).setCell (p := ⟨w.heap.size + 1 + 1, 3, none⟩) (by simp; omega) (.int .i64 (pC f s g 1 0))).setCell (p := ⟨w.heap.size + 1 + 1, 4, none⟩) (by simp; omega) (.int .i64 (pC f s g 1 1))).setCell (p := ⟨w.heap.size + 1 + 1, 5, none⟩) (by simp; omega) (.int .i64 (pC f s g 1 2))).setCell (p := ⟨w.heap.size + 1 + 1, 6, none⟩) (by simp; omega) (.int .i64 (pC f s g 2 0))).setCell (p := ⟨w.heap.size + 1 + 1, 7, none⟩) (by simp; omega) (.int .i64 (pC f s g 2 1))).setCell (p := ⟨w.heap.size + 1 + 1, 8, none⟩) (by simp; omega) (.int .i64 (pC f s g 2 2)))
      clear HQ HMF
      go_wp2
      generalize (World.setCell _ _ _) = W5 at hX hZ ⊢
      have e0 := (hX.cell 0).trans rfl
      have e1 := (hX.cell 1).trans rfl
      have e2 := (hX.cell 2).trans rfl
      have e3 := (hX.cell 3).trans rfl
      have e4 := (hX.cell 4).trans rfl
      have e5 := (hX.cell 5).trans rfl
      have e6 := (hX.cell 6).trans rfl
      have e7 := (hX.cell 7).trans rfl
      have e8 := (hX.cell 8).trans rfl
      refine bodyPost_ret (by simp [results, Try.results88, go_sem, e0, e1, e2, e3, e4, e5, e6, e7, e8]; try rfl) rfl ?_
      exact ⟨rfl, hZ⟩

end Go.Proofs.Ytjlniinahfgakaa
