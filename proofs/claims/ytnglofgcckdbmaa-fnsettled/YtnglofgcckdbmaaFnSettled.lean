/- At every list of bytes the law FnSettled answers true: of what is drawn as paid and owed no more is set against one another than there was of either, one side is used up, and both sides are gone through by their days. No condition. -/
import Derived.Test.YtnglofgcckdbmaaRows
import Derived.WalkKit
import Derived.ProofKit
import Derived.OpenShut
import Derived.ShutString
import Derived.ChangeOld
import Derived.Below
import Derived.Handy
import Derived.Carry
import Derived.Lib.SmallJoins
import Derived.Deep.SlicePairs
import Derived.Test.YtnglofgcckdbmaaVs
namespace Go.Proofs.Ytnglofgcckdbmaa.fnSettled
open Go.ChangeShapes Go.WideShapes Go.ChangeAt Go.RowKit
set_option linter.unusedVariables false
set_option linter.unusedSimpArgs false

theorem own : ownKnob Try.prog.godebug = none := by kernel_rfl
theorem laidOut : laidOutB Try.prog = true := by kernel_rfl

set_option maxRecDepth 20000 in
set_option maxHeartbeats 4000000 in
theorem walk (a0 : Option Addr) (len0 cap0 : Nat) (z0 : List Int) (w : World) (w0 : IsRow .u8 w a0 len0 cap0 z0) :
    Calls Try.prog 7 #[.slice a0 len0 cap0] w fun e w' => e = .returned (.bool true) ∧ Below w.heap.size w w' := by
  by_cases hbig : (1048576 : Int) < (len0 : Int)
  · go_enter Try.func7, Try.ntmps7
    go_wp2_with (go_at_call 11; refine (big_t _ _ _ _ hbig).mono ?_; rintro e w1 ⟨rfl, ew⟩; replace ew := ew.symm; subst ew)
    go_returns
    exact ⟨rfl, Below.refl _ _⟩
  have hb2 : (len0 : Int) ≤ 1048576 := by omega
  have HRW : Hid (ByteRow w w.heap.size a0 len0) := row_of w0
  have HDR : Hid (∀ W, Below w.heap.size w W → Calls Try.prog 34 #[.slice a0 len0 cap0] W (DsP W)) := fun W b => drawSettle_any a0 len0 cap0 W hb2 (HRW.out.up b)
  have H1 : Hid (∀ W : World, Calls Try.prog 33 #[.slice (some ⟨W.heap.size, 0, none⟩) 1 1, .slice (some ⟨W.heap.size + 1, 0, none⟩) 2 2] ((W.alloc (.cells #[.int .i64 4, .int .i64 5] 60 (0, 0))).alloc (.cells #[.int .i64 9, .int .i64 2, .int .i64 8, .int .i64 4] 60 (0, 0))) fun e w' => ∃ g cap, e = .returned (.slice (some ⟨g, 0, none⟩) 2 cap) ∧ w'.cell? ⟨g, 1, none⟩ = some (.int .i64 1) ∧ w'.cell? ⟨g, 2, none⟩ = some (.int .i64 4) ∧ w'.cell? ⟨g, 5, none⟩ = some (.int .i64 1) ∧ Below W.heap.size W w') := fun W => one_settle W
  have tok1 : True := trivial
  clear w0
  go_enter Try.func7, Try.ntmps7
  go_wp2_with (first
    | (go_at_call 11; refine (big_f _ _ _ _ hb2).mono ?_; rintro e wq ⟨rfl, ew⟩; replace ew := ew.symm; subst ew)
    | (go_at_call 33; clear tok1; refine (H1.out _).mono ?_; rintro e w1 ⟨go, capo, rfl, o1, o2, o3, b1⟩; have HB1 : Hid (Below w.heap.size w w1) := b1; clear b1)
    | (go_at_call 34; clear o1 o2 o3; refine (HDR.out _ HB1.out).mono ?_; rintro e w2 ⟨g1, n, oc1, c, g2, m, oc2, d, rfl, hn, hm, r1, r2, b2⟩; have HB2 : Hid (Below w.heap.size w w2) := bel_on HB1.out b2; have HR1 : Hid (∀ W, Below w2.heap.size w2 W → OIr W (some ⟨g1, 0, none⟩) n c) := hid (fun W b => r1.below b); have HR2 : Hid (∀ W, Below w2.heap.size w2 W → OIr W (some ⟨g2, 0, none⟩) m d) := hid (fun W b => r2.below b); have hnI : (n : Int) ≤ 1048576 := (by omega); have hmI : (m : Int) ≤ 1048576 := (by omega); have HIM := hid (fun W b => implSettle_any (some ⟨g1, 0, none⟩) (some ⟨g2, 0, none⟩) n m oc1 oc2 c d W hnI hmI (HR1.out W b) (HR2.out W b)); have HSP := hid (fun W b => specSettle_any (some ⟨g1, 0, none⟩) (some ⟨g2, 0, none⟩) n m oc1 oc2 c d W hnI hmI (HR1.out W b) (HR2.out W b)); have HSE := hid (fun h => seM_pos c d n m h); have hMl := seM_le c d n m; obtain ⟨M, hM⟩ : ∃ M, seM c d n m = M := ⟨_, rfl⟩; unfold SeR at HIM HSP; rw [hM] at HIM HSP HSE hMl; have z1 : ((M : Int) != (M : Int)) = false := (by simp); have hmk1 := mkI n hnI; have hmk2 := mkI m hmI; clear b2 r1 r2 hM)
    | (go_at_call 35; refine (HSP.out _ (Below.refl _ _)).mono ?_; rintro e w3 ⟨ad3, cap3, rfl, _, b3⟩; have HB3 : Hid (Below w2.heap.size w2 w3) := b3; clear b3)
    | (go_at_call 33; refine (HIM.out _ HB3.out).mono ?_; rintro e w4 ⟨adg, capg, rfl, o4, b4⟩; have HG4 : Hid (PAr w4 adg M (paF c d n m)) := hid o4.row; have HB4 : Hid (Below w2.heap.size w2 w4) := bel_on HB3.out b4; clear o4 b4))
  all_goals clear HDR H1 HIM HSP z1
  · go_returns
    exact ⟨rfl, HB2.out.trans (HB4.out.mono HB2.out.size)⟩
  have hM0 : 0 < M := by
    have h0 : ((M : Int) == 0) = false := by assumption
    have : ¬ (M : Int) = 0 := by simpa using h0
    omega
  obtain ⟨hoo, hisM⟩ := HSE.out hM0
  obtain ⟨_, hc, _⟩ := opB_amt hoo.1
  obtain ⟨_, hd, _⟩ := opB_amt hoo.2
  have HIS := hid hisM
  have HBD : Hid (∀ k, runs c d n m k → (∀ q, q < n → 0 ≤ (sq c d n m k).1 q ∧ (sq c d n m k).1 q ≤ 100000000000) ∧ (∀ q, q < m → 0 ≤ (sq c d n m k).2 q ∧ (sq c d n m k).2 q ≤ 100000000000)) := hid (sq_bd c d n m hc hd)
  have HEZ := hid (end_zero c d n m hisM hc hd)
  have HA0 : Hid (CB ((w4.alloc (.cells (zeros n) 3)).alloc (.cells (zeros m) 3)) w4.heap.size (zeros n) 3) := hid ((CB.new _ _).alloc _)
  have HA1 : Hid (CB ((w4.alloc (.cells (zeros n) 3)).alloc (.cells (zeros m) 3)) (w4.heap.size + 1) (zeros m) 3) := hid (CB.newAt (by simp) _ _)
  have HBW : Hid (Below w4.heap.size w4 ((w4.alloc (.cells (zeros n) 3)).alloc (.cells (zeros m) 3))) := hid (((Below.refl _ _).alloc (Nat.le_refl _) _).alloc (by simp) _)
  have HL4 : Hid (∀ W, Below w4.heap.size w4 W → Below w.heap.size w W) := hid (fun W b => HB2.out.trans ((bel_on HB4.out b).mono HB2.out.size))
  have HRa : Hid (∀ W, Below w4.heap.size w4 W → OIr W (some ⟨g1, 0, none⟩) n c) := hid (fun W b => HR1.out W (bel_on HB4.out b))
  have HRb : Hid (∀ W, Below w4.heap.size w4 W → OIr W (some ⟨g2, 0, none⟩) m d) := hid (fun W b => HR2.out W (bel_on HB4.out b))
  have HRg : Hid (∀ W, Below w4.heap.size w4 W → PAr W adg M (paF c d n m)) := hid (fun W b => HG4.out.below b)
  obtain ⟨gg, og, rfl, hgg⟩ := HG4.out.addr hM0
  have HGG : Hid (gg < w4.heap.size) := hgg
  clear HSE hoo hisM hc hd hmk1 hmk2 HR1 HR2 HG4 HB2 HB3 HB4 hgg
  obtain ⟨B, hB⟩ : ∃ B, w4.heap.size = B := ⟨_, rfl⟩
  have HBe : Hid (w4.heap.size = B) := hB
  rw [hB] at HA0 HA1 ⊢
  clear hB
  go_loopw [10] (fun i wr => ∃ (k : Nat) (cs : Array Value), k ≤ n ∧ i = .int .i64 (k : Int) ∧ Hid (CB wr B cs 3 ∧ cs.size = n ∧ (∀ j, j < k → cs[j]? = some (.int .i64 (c j).amount)) ∧ CB wr (B + 1) (zeros m) 3 ∧ Below w4.heap.size w4 wr)) (fun i _ => n - (intOf i).toNat)
  case atStart => exact ⟨0, _, Nat.zero_le _, rfl, HA0.out, zeros_size _, fun j hj => by omega, HA1.out, HBW.out⟩
  case round =>
    clear HA0 HA1 HBW
    obtain ⟨k, cs, hk, rfl, HH⟩ := hrel
    by_cases hlt : k < n
    · have hlt2 : (k : Int) < (n : Int) := by omega
      obtain ⟨_, c1⟩ := (HRa.out wr HH.out.2.2.2.2).cell hlt
      simp only [Nat.zero_add] at c1
      obtain ⟨A, hA⟩ : ∃ A, (c k).amount = A := ⟨_, rfl⟩
      rw [hA] at c1
      have y0 := HH.out.1.cell k
      obtain ⟨v0, e0⟩ : ∃ v, cs[k]? = some v := ⟨_, Array.getElem?_eq_getElem (by have := HH.out.2.1; omega)⟩
      rw [e0] at y0
      have f0 := HH.out.1.fr k
      have HAA : Hid ((c k).amount = A) := hA
      clear hA e0
      go_wp2
      go_roundw
      case rel =>
        refine ⟨k + 1, _, by omega, by go_num, HH.out.1.set _ _, by simp [HH.out.2.1], fun j hj => ?_, HH.out.2.2.2.1.other _ (by omega), HH.out.2.2.2.2.setCell (by rw [HBe.out]; exact Nat.le_refl _) _⟩
        have hsz := HH.out.2.1
        by_cases e : j = k
        · subst e; rw [HAA.out, Array.getElem?_setIfInBounds_self_of_lt (by omega)]
        · rw [Array.getElem?_setIfInBounds_ne (by omega)]; exact HH.out.2.2.1 j (by omega)
      case measure => simp [intOf]; omega
    · obtain rfl : k = n := by omega
      have lkk : ¬ (k : Int) < (k : Int) := by omega
      have HA2 : Hid (IB wr B k (fun q => (c q).amount)) := hid ⟨cs, HH.out.1, HH.out.2.2.1⟩
      have HC2 : Hid (CB wr (B + 1) (zeros m) 3) := HH.out.2.2.2.1
      have HB6 : Hid (Below w4.heap.size w4 wr) := HH.out.2.2.2.2
      clear HH
      obtain ⟨w6, rfl⟩ : ∃ x, x = wr := ⟨wr, rfl⟩
      go_wp2
      go_loopw [11] (fun i wr => ∃ (q : Nat) (cs : Array Value), q ≤ m ∧ i = .int .i64 (q : Int) ∧ Hid (CB wr (B + 1) cs 3 ∧ cs.size = m ∧ (∀ j, j < q → cs[j]? = some (.int .i64 (d j).amount)) ∧ IB wr B k (fun q => (c q).amount) ∧ Below w4.heap.size w4 wr)) (fun i _ => m - (intOf i).toNat)
      case atStart => exact ⟨0, _, Nat.zero_le _, rfl, HC2.out, zeros_size _, fun j hj => by omega, HA2.out, HB6.out⟩
      case round =>
        clear HA2 HC2 HB6
        obtain ⟨q, cs, hq, rfl, HH⟩ := hrel
        by_cases hlq : q < m
        · have hlt2 : (q : Int) < (m : Int) := by omega
          obtain ⟨_, c1⟩ := (HRb.out wr HH.out.2.2.2.2).cell hlq
          simp only [Nat.zero_add] at c1
          obtain ⟨A, hA⟩ : ∃ A, (d q).amount = A := ⟨_, rfl⟩
          rw [hA] at c1
          have y0 := HH.out.1.cell q
          obtain ⟨v0, e0⟩ : ∃ v, cs[q]? = some v := ⟨_, Array.getElem?_eq_getElem (by have := HH.out.2.1; omega)⟩
          rw [e0] at y0
          have f0 := HH.out.1.fr q
          have HAA : Hid ((d q).amount = A) := hA
          clear hA e0
          go_wp2
          go_roundw
          case rel =>
            refine ⟨q + 1, _, by omega, by go_num, HH.out.1.set _ _, by simp [HH.out.2.1], fun j hj => ?_, HH.out.2.2.2.1.other _ (by omega), HH.out.2.2.2.2.setCell (by rw [HBe.out]; exact Nat.le_succ _) _⟩
            have hsz := HH.out.2.1
            by_cases e : j = q
            · subst e; rw [HAA.out, Array.getElem?_setIfInBounds_self_of_lt (by omega)]
            · rw [Array.getElem?_setIfInBounds_ne (by omega)]; exact HH.out.2.2.1 j (by omega)
          case measure => simp [intOf]; omega
        · obtain rfl : q = m := by omega
          have lqq : ¬ (q : Int) < (q : Int) := by omega
          have HS0 : Hid (IB wr B k (sq c d k q 0).1 ∧ IB wr (B + 1) q (sq c d k q 0).2 ∧ Below w4.heap.size w4 wr) := hid ⟨HH.out.2.2.2.1, ⟨cs, HH.out.1, HH.out.2.2.1⟩, HH.out.2.2.2.2⟩
          clear HH
          obtain ⟨w7, rfl⟩ : ∃ x, x = wr := ⟨wr, rfl⟩
          go_wp2
          go_loopw [12, 13] (fun i p wr => ∃ (t : Nat), t ≤ M ∧ i = .int .i64 (t : Int) ∧ Hid (IB wr B k (sq c d k q t).1 ∧ IB wr (B + 1) q (sq c d k q t).2 ∧ Below w4.heap.size w4 wr)) (fun i _ _ => M - (intOf i).toNat)
          case atStart => exact ⟨0, Nat.zero_le _, rfl, HS0.out⟩
          case round =>
            clear HS0
            obtain ⟨t, ht, rfl, HH⟩ := hrel
            obtain ⟨w8, rfl⟩ : ∃ x, x = wr := ⟨wr, rfl⟩
            by_cases hlM : t < M
            · have hlM2 : (t : Int) < (M : Int) := by omega
              have hns := HIS.out.1 t hlM
              obtain ⟨⟨a1, a2, a3⟩, ⟨b1, b2, b3⟩⟩ := go_at c d k q hns
              have hrun : runs c d k q t := fun j hj => HIS.out.1 j (by omega)
              have hrun1 : runs c d k q (t + 1) := fun j hj => HIS.out.1 j (by omega)
              obtain ⟨bd1, bd2⟩ := HBD.out t hrun
              obtain ⟨bd3, bd4⟩ := HBD.out (t + 1) hrun1
              have u1 := (bd1 _ a2).2
              have u2 := (bd2 _ b2).2
              have v1 := (bd3 _ a2).1
              have v2 := (bd4 _ b2).1
              rw [sq_1, upd_i] at v1
              rw [sq_2, upd_i] at v2
              have x0 : 0 < xF c d k q t := by unfold xF; exact mnV_pos a3 b3
              have HS1 := hid (sq_1 c d k q t)
              have HS2 := hid (sq_2 c d k q t)
              have HPF : Hid (paF c d k q t = ⟨(iF c d k q t : Int), (jF c d k q t : Int), xF c d k q t⟩) := rfl
              obtain ⟨p0, p1, p2⟩ := (HRg.out w8 HH.out.2.2).cell hlM
              rw [HPF.out] at p0 p1 p2
              simp only at p0 p1 p2
              obtain ⟨d0, _⟩ := (HRa.out w8 HH.out.2.2).cell a2
              obtain ⟨e0, _⟩ := (HRb.out w8 HH.out.2.2).cell b2
              simp only [Nat.zero_add] at d0 e0
              have ca := HH.out.1.cell a2
              have cb := HH.out.2.1.cell b2
              have fa := HH.out.1.fr (iF c d k q t)
              have fb := HH.out.2.1.fr (jF c d k q t)
              obtain ⟨D1, hD1⟩ : ∃ D, (c (iF c d k q t)).day = D := ⟨_, rfl⟩
              obtain ⟨E1, hE1⟩ : ∃ D, (d (jF c d k q t)).day = D := ⟨_, rfl⟩
              obtain ⟨A, hA⟩ : ∃ A, (sq c d k q t).1 (iF c d k q t) = A := ⟨_, rfl⟩
              obtain ⟨E, hE⟩ : ∃ A, (sq c d k q t).2 (jF c d k q t) = A := ⟨_, rfl⟩
              have HDY : Hid (∀ t', t = t' + 1 → (c (iF c d k q t')).day ≤ D1 ∧ (d (jF c d k q t')).day ≤ E1 ∧ iF c d k q t' < k ∧ jF c d k q t' < q) := hid (fun t' e => by
                subst e
                have := step_days c d k q (k := t') (fun j hj => HIS.out.1 j (by omega))
                rw [hD1, hE1] at this
                obtain ⟨⟨_, r1, _⟩, ⟨_, r2, _⟩⟩ := go_at c d k q (HIS.out.1 t' (by omega))
                exact ⟨this.1, this.2, r1, r2⟩)
              rw [hD1] at d0
              rw [hE1] at e0
              rw [hA] at ca u1 v1 a3 HS1
              rw [hE] at cb u2 v2 b3 HS2
              obtain ⟨i0, hi0⟩ : ∃ i, iF c d k q t = i := ⟨_, rfl⟩
              obtain ⟨j0, hj0⟩ : ∃ i, jF c d k q t = i := ⟨_, rfl⟩
              obtain ⟨X, hX⟩ : ∃ i, xF c d k q t = i := ⟨_, rfl⟩
              rw [hi0] at p0 d0 ca fa a2 HS1
              rw [hj0] at p1 e0 cb fb b2 HS2
              rw [hX] at p2 v1 v2 x0 HS1 HS2
              have i2 : (i0 : Int) < (k : Int) := by omega
              have j2 : (j0 : Int) < (q : Int) := by omega
              have HIJ : Hid (i0 < k ∧ j0 < q) := ⟨a2, b2⟩
              have hgl : gg < w8.heap.size := by have := HGG.out; have := HH.out.2.2.size; omega
              have hBl : B < w8.heap.size := HH.out.1.lt
              have hBl1 : B + 1 < w8.heap.size := HH.out.2.1.lt
              have hg1l : g1 < w8.heap.size := World.block_lt_of_cell? w8 ⟨g1, _, none⟩ d0
              have hg2l : g2 < w8.heap.size := World.block_lt_of_cell? w8 ⟨g2, _, none⟩ e0
              clear a1 b1 bd1 bd2 bd3 bd4 hD1 hE1 hA hE hX hns hrun hrun1 hi0 hj0 a2 b2
              by_cases ht0 : t = 0
              · have dt : decide ((0 : Int) < (t : Int)) = false := decide_eq_false (by omega)
                have dt2 : decide (0 < t) = false := decide_eq_false (by omega)
                clear ht0
                go_wp2
                have bb : Below w8.heap.size w8 (w8.alloc (.cells #[.int .i64 (i0 : Int), .int .i64 (j0 : Int), .int .i64 X] 38 (0, 0))) := (Below.refl _ _).alloc (Nat.le_refl _) _
                replace p0 := keep_cell bb p0
                replace p1 := keep_cell bb p1
                replace p2 := keep_cell bb p2
                replace d0 := keep_cell bb d0
                replace e0 := keep_cell bb e0
                replace ca := keep_cell bb ca
                replace cb := keep_cell bb cb
                have x1 : (w8.alloc (.cells #[.int .i64 (i0 : Int), .int .i64 (j0 : Int), .int .i64 X] 38 (0, 0))).cell? ⟨w8.heap.size, 0, none⟩ = some (.int .i64 (i0 : Int)) := ((CB.new (w := w8) _ _).cell 0).trans rfl
                have x2 : (w8.alloc (.cells #[.int .i64 (i0 : Int), .int .i64 (j0 : Int), .int .i64 X] 38 (0, 0))).cell? ⟨w8.heap.size, 1, none⟩ = some (.int .i64 (j0 : Int)) := ((CB.new (w := w8) _ _).cell 1).trans rfl
                have x3 : (w8.alloc (.cells #[.int .i64 (i0 : Int), .int .i64 (j0 : Int), .int .i64 X] 38 (0, 0))).cell? ⟨w8.heap.size, 2, none⟩ = some (.int .i64 X) := ((CB.new (w := w8) _ _).cell 2).trans rfl
                have HH9 : Hid (IB (w8.alloc (.cells #[.int .i64 (i0 : Int), .int .i64 (j0 : Int), .int .i64 X] 38 (0, 0))) B k (sq c d k q t).1 ∧ IB (w8.alloc (.cells #[.int .i64 (i0 : Int), .int .i64 (j0 : Int), .int .i64 X] 38 (0, 0))) (B + 1) q (sq c d k q t).2 ∧ Below w4.heap.size w4 (w8.alloc (.cells #[.int .i64 (i0 : Int), .int .i64 (j0 : Int), .int .i64 X] 38 (0, 0)))) := hid ⟨HH.out.1.below bb, HH.out.2.1.below bb, bel_on HH.out.2.2 bb⟩
                clear fa fb HH bb hgl hg1l hg2l
                have nB0 : w8.heap.size ≠ B := by omega
                have nB1 : w8.heap.size ≠ B + 1 := by omega
                clear hBl hBl1
                generalize w8.alloc (.cells #[.int .i64 (i0 : Int), .int .i64 (j0 : Int), .int .i64 X] 38 (0, 0)) = w9 at p0 p1 p2 d0 e0 ca cb x1 x2 x3 HH9  ⊢
                generalize w8.heap.size = NB at x1 x2 x3 nB0 nB1 ⊢
                go_quiet (fail)
                go_wp2
                replace HH9 : Hid (IB (w9.drewN nq) B k (sq c d k q t).1 ∧ IB (w9.drewN nq) (B + 1) q (sq c d k q t).2 ∧ Below w4.heap.size w4 (w9.drewN nq)) := hid ⟨HH9.out.1.below (bd_N (Below.refl _ _) _), HH9.out.2.1.below (bd_N (Below.refl _ _) _), bel_on HH9.out.2.2 (bd_N (Below.refl _ _) _)⟩
                replace x1 : (w9.drewN nq).cell? ⟨NB, 0, none⟩ = some (.int .i64 (i0 : Int)) := x1
                replace x2 : (w9.drewN nq).cell? ⟨NB, 1, none⟩ = some (.int .i64 (j0 : Int)) := x2
                replace x3 : (w9.drewN nq).cell? ⟨NB, 2, none⟩ = some (.int .i64 X) := x3
                replace ca : (w9.drewN nq).cell? ⟨B, i0, none⟩ = some (.int .i64 A) := ca
                replace cb : (w9.drewN nq).cell? ⟨B + 1, j0, none⟩ = some (.int .i64 E) := cb
                clear p0 p1 p2 d0 e0
                generalize w9.drewN nq = w10 at HH9 x1 x2 x3 ca cb ⊢
                have hwA : IntKind.i64.wrap (A - X) = A - X := IntWalk.i64_in _ ⟨by omega, by omega⟩
                have hwE : IntKind.i64.wrap (E - X) = E - X := IntWalk.i64_in _ ⟨by omega, by omega⟩
                have fa := HH9.out.1.fr i0
                have HX : Hid (w10.drew.cell? ⟨NB, 0, none⟩ = some (.int .i64 (i0 : Int)) ∧ w10.drew.cell? ⟨NB, 1, none⟩ = some (.int .i64 (j0 : Int)) ∧ w10.drew.cell? ⟨NB, 2, none⟩ = some (.int .i64 X)) := hid ⟨x1, x2, x3⟩
                have HY : Hid ((w10.setCell ⟨B, i0, none⟩ (.int .i64 (A - X))).drew.cell? ⟨NB, 0, none⟩ = some (.int .i64 (i0 : Int)) ∧ (w10.setCell ⟨B, i0, none⟩ (.int .i64 (A - X))).drew.cell? ⟨NB, 1, none⟩ = some (.int .i64 (j0 : Int)) ∧ (w10.setCell ⟨B, i0, none⟩ (.int .i64 (A - X))).drew.cell? ⟨NB, 2, none⟩ = some (.int .i64 X)) := hid ⟨cell_oth nB0 x1, cell_oth nB0 x2, cell_oth nB0 x3⟩
                have HCE : Hid (w10.drew.cell? ⟨B, i0, none⟩ = some (.int .i64 A)) := ca
                refine wp_region_noPanic ?_
                refine wp_region_held_drew (S := fun w' => w'.cell? ⟨NB, 0, none⟩ = some (.int .i64 (i0 : Int)) ∧ w'.cell? ⟨NB, 1, none⟩ = some (.int .i64 (j0 : Int)) ∧ w'.cell? ⟨NB, 2, none⟩ = some (.int .i64 X)) (by kernel_rfl) (by exact HX.out) (fun hHeld => ?_)
                refine wpAnyH_take (i := 0) (oi := { dst := some 176, op := Go.Op.move (Go.Operand.tmp 8), type := 24, pos := "laws.go:1697", after := #[], guard := none }) (v := ?_) rfl (by kernel_rfl) (by kernel_rfl) (by kernel_rfl) (fun _ _ _ h => h) (Or.inl ⟨by rfl, ?_⟩) (by assumption) ?_
                rotate_left
                · (intro w hSw; (try dsimp only at hSw); go_simp <;> try with_reducible rfl)
                try simp only [Act.put, List.setIfInBounds_toArray, List.set_cons_zero, List.set_cons_succ]
                refine wpAnyH_take (i := 1) (oi := { dst := some 177, op := Go.Op.fieldAddr 38 (Go.Operand.tmp 13) 0, type := 0, pos := "laws.go:1697", after := #[], guard := none }) (v := ?_) rfl (by kernel_rfl) (by kernel_rfl) (by kernel_rfl) (fun _ _ _ h => h) (Or.inl ⟨by rfl, ?_⟩) (by assumption) ?_
                rotate_left
                · (intro w hSw; (try dsimp only at hSw); go_simp <;> try with_reducible rfl)
                try simp only [Act.put, List.setIfInBounds_toArray, List.set_cons_zero, List.set_cons_succ]
                refine wpAnyH_take (i := 2) (oi := { dst := some 178, op := Go.Op.load 3 (Go.Operand.tmp 177), type := 3, pos := "laws.go:1697", after := #[{ on := 1, ground := Go.Ground.data }], guard := none }) (v := ?_) rfl (by kernel_rfl) (by kernel_rfl) (by kernel_rfl) (fun _ _ _ h => h) (Or.inl ⟨by rfl, ?_⟩) (by assumption) ?_
                rotate_left
                · (intro w hSw; (try dsimp only at hSw); go_simp <;> try with_reducible rfl)
                try simp only [Act.put, List.setIfInBounds_toArray, List.set_cons_zero, List.set_cons_succ]
                refine wpAnyH_take (i := 3) (oi := { dst := some 179, op := Go.Op.move (Go.Operand.tmp 8), type := 24, pos := "laws.go:1697", after := #[], guard := none }) (v := ?_) rfl (by kernel_rfl) (by kernel_rfl) (by kernel_rfl) (fun _ _ _ h => h) (Or.inl ⟨by rfl, ?_⟩) (by assumption) ?_
                rotate_left
                · (intro w hSw; (try dsimp only at hSw); go_simp <;> try with_reducible rfl)
                try simp only [Act.put, List.setIfInBounds_toArray, List.set_cons_zero, List.set_cons_succ]
                refine wpAnyH_take (i := 4) (oi := { dst := some 180, op := Go.Op.fieldAddr 38 (Go.Operand.tmp 13) 0, type := 0, pos := "laws.go:1697", after := #[], guard := none }) (v := ?_) rfl (by kernel_rfl) (by kernel_rfl) (by kernel_rfl) (fun _ _ _ h => h) (Or.inl ⟨by rfl, ?_⟩) (by assumption) ?_
                rotate_left
                · (intro w hSw; (try dsimp only at hSw); go_simp <;> try with_reducible rfl)
                try simp only [Act.put, List.setIfInBounds_toArray, List.set_cons_zero, List.set_cons_succ]
                refine wpAnyH_take (i := 5) (oi := { dst := some 181, op := Go.Op.load 3 (Go.Operand.tmp 180), type := 3, pos := "laws.go:1697", after := #[{ on := 4, ground := Go.Ground.data }], guard := none }) (v := ?_) rfl (by kernel_rfl) (by kernel_rfl) (by kernel_rfl) (fun _ _ _ h => h) (Or.inl ⟨by rfl, ?_⟩) (by assumption) ?_
                rotate_left
                · (intro w hSw; (try dsimp only at hSw); go_simp <;> try with_reducible rfl)
                try simp only [Act.put, List.setIfInBounds_toArray, List.set_cons_zero, List.set_cons_succ]
                refine wpAnyH_take (i := 6) (oi := { dst := some 182, op := Go.Op.indexAddr 24 (Go.Operand.tmp 179) (Go.Operand.tmp 181), type := 0, pos := "laws.go:1697", after := #[{ on := 3, ground := Go.Ground.data }, { on := 5, ground := Go.Ground.data }], guard := none }) (v := ?_) rfl (by kernel_rfl) (by kernel_rfl) (by kernel_rfl) (fun _ _ _ h => h) (Or.inl ⟨by rfl, ?_⟩) (by assumption) ?_
                rotate_left
                · (intro w hSw; (try dsimp only at hSw); go_simp <;> try with_reducible rfl)
                try simp only [Act.put, List.setIfInBounds_toArray, List.set_cons_zero, List.set_cons_succ]
                refine wpAnyH_take (i := 8) (oi := { dst := some 184, op := Go.Op.fieldAddr 38 (Go.Operand.tmp 13) 2, type := 0, pos := "laws.go:1697", after := #[], guard := none }) (v := ?_) rfl (by kernel_rfl) (by kernel_rfl) (by kernel_rfl) (fun _ _ _ h => h) (Or.inl ⟨by rfl, ?_⟩) (by assumption) ?_
                rotate_left
                · (intro w hSw; (try dsimp only at hSw); go_simp <;> try with_reducible rfl)
                try simp only [Act.put, List.setIfInBounds_toArray, List.set_cons_zero, List.set_cons_succ]
                refine wpAnyH_take (i := 9) (oi := { dst := some 185, op := Go.Op.load 3 (Go.Operand.tmp 184), type := 3, pos := "laws.go:1697", after := #[{ on := 8, ground := Go.Ground.data }], guard := none }) (v := ?_) rfl (by kernel_rfl) (by kernel_rfl) (by kernel_rfl) (fun _ _ _ h => h) (Or.inl ⟨by rfl, ?_⟩) (by assumption) ?_
                rotate_left
                · (intro w hSw; (try dsimp only at hSw); go_simp <;> try with_reducible rfl)
                try simp only [Act.put, List.setIfInBounds_toArray, List.set_cons_zero, List.set_cons_succ]
                refine wpAnyH_ready (rs := [7]) (by kernel_rfl) (by simp) ?_
                refine AllReadyH.cons (o := { dst := some 183, op := Go.Op.load 3 (Go.Operand.tmp 182), type := 3, pos := "laws.go:1697", after := #[{ on := 6, ground := Go.Ground.data }], guard := none }) rfl (fun K hK => ?_) (AllReadyH.nil)
                have hce := HCE.out
                go_simp
                refine hK.out _ _ (by exact HX.out) (fun hHeld => ?_)
                clear hK K hce
                try simp only [Act.put, List.setIfInBounds_toArray, List.set_cons_zero, List.set_cons_succ]
                refine wpAnyH_take (i := 10) (oi := { dst := some 186, op := Go.Op.binOp Go.BinOp.sub 3 (Go.Operand.tmp 183) (Go.Operand.tmp 185) 3, type := 3, pos := "laws.go:1697", after := #[{ on := 7, ground := Go.Ground.data }, { on := 9, ground := Go.Ground.data }], guard := none }) (v := ?_) rfl (by kernel_rfl) (by kernel_rfl) (by kernel_rfl) (fun _ _ _ h => h) (Or.inl ⟨by rfl, ?_⟩) (by assumption) ?_
                rotate_left
                · (intro w hSw; (try dsimp only at hSw); go_simp <;> try with_reducible rfl)
                try simp only [Act.put, List.setIfInBounds_toArray, List.set_cons_zero, List.set_cons_succ]
                refine wpAnyH_take (i := 11) (oi := { dst := some 187, op := Go.Op.indexAddr 24 (Go.Operand.tmp 176) (Go.Operand.tmp 178), type := 0, pos := "laws.go:1697", after := #[{ on := 0, ground := Go.Ground.data }, { on := 2, ground := Go.Ground.data }, { on := 0, ground := Go.Ground.phase }, { on := 1, ground := Go.Ground.phase }, { on := 2, ground := Go.Ground.phase }, { on := 3, ground := Go.Ground.phase }, { on := 4, ground := Go.Ground.phase }, { on := 5, ground := Go.Ground.phase }, { on := 6, ground := Go.Ground.phase }, { on := 7, ground := Go.Ground.phase }, { on := 8, ground := Go.Ground.phase }, { on := 9, ground := Go.Ground.phase }, { on := 10, ground := Go.Ground.phase }], guard := none }) (v := ?_) rfl (by kernel_rfl) (by kernel_rfl) (by kernel_rfl) (fun _ _ _ h => h) (Or.inl ⟨by rfl, ?_⟩) (by assumption) ?_
                rotate_left
                · (intro w hSw; (try dsimp only at hSw); go_simp <;> try with_reducible rfl)
                try simp only [Act.put, List.setIfInBounds_toArray, List.set_cons_zero, List.set_cons_succ]
                refine wpAnyH_ready (rs := [12]) (by kernel_rfl) (by simp) ?_
                refine AllReadyH.cons (o := { dst := none, op := Go.Op.store 3 (Go.Operand.tmp 187) (Go.Operand.tmp 186), type := 0, pos := "laws.go:1697", after := #[{ on := 11, ground := Go.Ground.data }, { on := 10, ground := Go.Ground.data }, { on := 0, ground := Go.Ground.phase }, { on := 1, ground := Go.Ground.phase }, { on := 2, ground := Go.Ground.phase }, { on := 3, ground := Go.Ground.phase }, { on := 4, ground := Go.Ground.phase }, { on := 5, ground := Go.Ground.phase }, { on := 6, ground := Go.Ground.phase }, { on := 7, ground := Go.Ground.phase }, { on := 8, ground := Go.Ground.phase }, { on := 9, ground := Go.Ground.phase }, { on := 10, ground := Go.Ground.phase }], guard := none }) rfl (fun K hK => ?_) (AllReadyH.nil)
                go_simp
                refine hK.out _ _ (by exact HY.out) (fun hHeld => ?_)
                clear hK K
                try simp only [Act.put, List.setIfInBounds_toArray, List.set_cons_zero, List.set_cons_succ]
                refine wpAnyH_done (by kernel_rfl) ?_ _
                refine NoPanic.normal ?_
                clear hHeld HX HY HCE
                clear fa
                have HH11 : Hid (IB (w10.setCell ⟨B, i0, none⟩ (.int .i64 (A - X))).drew B k (sq c d k q (t + 1)).1 ∧ IB (w10.setCell ⟨B, i0, none⟩ (.int .i64 (A - X))).drew (B + 1) q (sq c d k q t).2 ∧ Below w4.heap.size w4 (w10.setCell ⟨B, i0, none⟩ (.int .i64 (A - X))).drew) := hid ⟨IB.dr (by rw [HS1.out]; exact HH9.out.1.set HIJ.out.1 _), IB.dr (HH9.out.2.1.other _ (by omega)), (HH9.out.2.2.setCell (by rw [HBe.out]; exact Nat.le_refl _) _).drew⟩
                replace x1 := cell_oth (a := B) (p := i0) (u := .int .i64 (A - X)) nB0 x1
                replace x2 := cell_oth (a := B) (p := i0) (u := .int .i64 (A - X)) nB0 x2
                replace x3 := cell_oth (a := B) (p := i0) (u := .int .i64 (A - X)) nB0 x3
                replace cb := cell_oth (a := B) (p := i0) (u := .int .i64 (A - X)) (by omega) cb
                clear ca HH9
                generalize (w10.setCell ⟨B, i0, none⟩ (.int .i64 (A - X))).drew = w11 at HH11 x1 x2 x3 cb ⊢
                have fb := HH11.out.2.1.fr j0
                go_wp2
                have HX : Hid (w11.drew.cell? ⟨NB, 0, none⟩ = some (.int .i64 (i0 : Int)) ∧ w11.drew.cell? ⟨NB, 1, none⟩ = some (.int .i64 (j0 : Int)) ∧ w11.drew.cell? ⟨NB, 2, none⟩ = some (.int .i64 X)) := hid ⟨x1, x2, x3⟩
                have HY : Hid ((w11.setCell ⟨B + 1, j0, none⟩ (.int .i64 (E - X))).drew.cell? ⟨NB, 0, none⟩ = some (.int .i64 (i0 : Int)) ∧ (w11.setCell ⟨B + 1, j0, none⟩ (.int .i64 (E - X))).drew.cell? ⟨NB, 1, none⟩ = some (.int .i64 (j0 : Int)) ∧ (w11.setCell ⟨B + 1, j0, none⟩ (.int .i64 (E - X))).drew.cell? ⟨NB, 2, none⟩ = some (.int .i64 X)) := hid ⟨cell_oth nB1 x1, cell_oth nB1 x2, cell_oth nB1 x3⟩
                have HCE : Hid (w11.drew.cell? ⟨B + 1, j0, none⟩ = some (.int .i64 E)) := cb
                refine wp_region_noPanic ?_
                refine wp_region_held_drew (S := fun w' => w'.cell? ⟨NB, 0, none⟩ = some (.int .i64 (i0 : Int)) ∧ w'.cell? ⟨NB, 1, none⟩ = some (.int .i64 (j0 : Int)) ∧ w'.cell? ⟨NB, 2, none⟩ = some (.int .i64 X)) (by kernel_rfl) (by exact HX.out) (fun hHeld => ?_)
                refine wpAnyH_take (i := 0) (oi := { dst := some 188, op := Go.Op.move (Go.Operand.tmp 9), type := 24, pos := "laws.go:1698", after := #[], guard := none }) (v := ?_) rfl (by kernel_rfl) (by kernel_rfl) (by kernel_rfl) (fun _ _ _ h => h) (Or.inl ⟨by rfl, ?_⟩) (by assumption) ?_
                rotate_left
                · (intro w hSw; (try dsimp only at hSw); go_simp <;> try with_reducible rfl)
                try simp only [Act.put, List.setIfInBounds_toArray, List.set_cons_zero, List.set_cons_succ]
                refine wpAnyH_take (i := 1) (oi := { dst := some 189, op := Go.Op.fieldAddr 38 (Go.Operand.tmp 13) 1, type := 0, pos := "laws.go:1698", after := #[], guard := none }) (v := ?_) rfl (by kernel_rfl) (by kernel_rfl) (by kernel_rfl) (fun _ _ _ h => h) (Or.inl ⟨by rfl, ?_⟩) (by assumption) ?_
                rotate_left
                · (intro w hSw; (try dsimp only at hSw); go_simp <;> try with_reducible rfl)
                try simp only [Act.put, List.setIfInBounds_toArray, List.set_cons_zero, List.set_cons_succ]
                refine wpAnyH_take (i := 2) (oi := { dst := some 190, op := Go.Op.load 3 (Go.Operand.tmp 189), type := 3, pos := "laws.go:1698", after := #[{ on := 1, ground := Go.Ground.data }], guard := none }) (v := ?_) rfl (by kernel_rfl) (by kernel_rfl) (by kernel_rfl) (fun _ _ _ h => h) (Or.inl ⟨by rfl, ?_⟩) (by assumption) ?_
                rotate_left
                · (intro w hSw; (try dsimp only at hSw); go_simp <;> try with_reducible rfl)
                try simp only [Act.put, List.setIfInBounds_toArray, List.set_cons_zero, List.set_cons_succ]
                refine wpAnyH_take (i := 3) (oi := { dst := some 191, op := Go.Op.move (Go.Operand.tmp 9), type := 24, pos := "laws.go:1698", after := #[], guard := none }) (v := ?_) rfl (by kernel_rfl) (by kernel_rfl) (by kernel_rfl) (fun _ _ _ h => h) (Or.inl ⟨by rfl, ?_⟩) (by assumption) ?_
                rotate_left
                · (intro w hSw; (try dsimp only at hSw); go_simp <;> try with_reducible rfl)
                try simp only [Act.put, List.setIfInBounds_toArray, List.set_cons_zero, List.set_cons_succ]
                refine wpAnyH_take (i := 4) (oi := { dst := some 192, op := Go.Op.fieldAddr 38 (Go.Operand.tmp 13) 1, type := 0, pos := "laws.go:1698", after := #[], guard := none }) (v := ?_) rfl (by kernel_rfl) (by kernel_rfl) (by kernel_rfl) (fun _ _ _ h => h) (Or.inl ⟨by rfl, ?_⟩) (by assumption) ?_
                rotate_left
                · (intro w hSw; (try dsimp only at hSw); go_simp <;> try with_reducible rfl)
                try simp only [Act.put, List.setIfInBounds_toArray, List.set_cons_zero, List.set_cons_succ]
                refine wpAnyH_take (i := 5) (oi := { dst := some 193, op := Go.Op.load 3 (Go.Operand.tmp 192), type := 3, pos := "laws.go:1698", after := #[{ on := 4, ground := Go.Ground.data }], guard := none }) (v := ?_) rfl (by kernel_rfl) (by kernel_rfl) (by kernel_rfl) (fun _ _ _ h => h) (Or.inl ⟨by rfl, ?_⟩) (by assumption) ?_
                rotate_left
                · (intro w hSw; (try dsimp only at hSw); go_simp <;> try with_reducible rfl)
                try simp only [Act.put, List.setIfInBounds_toArray, List.set_cons_zero, List.set_cons_succ]
                refine wpAnyH_take (i := 6) (oi := { dst := some 194, op := Go.Op.indexAddr 24 (Go.Operand.tmp 191) (Go.Operand.tmp 193), type := 0, pos := "laws.go:1698", after := #[{ on := 3, ground := Go.Ground.data }, { on := 5, ground := Go.Ground.data }], guard := none }) (v := ?_) rfl (by kernel_rfl) (by kernel_rfl) (by kernel_rfl) (fun _ _ _ h => h) (Or.inl ⟨by rfl, ?_⟩) (by assumption) ?_
                rotate_left
                · (intro w hSw; (try dsimp only at hSw); go_simp <;> try with_reducible rfl)
                try simp only [Act.put, List.setIfInBounds_toArray, List.set_cons_zero, List.set_cons_succ]
                refine wpAnyH_take (i := 8) (oi := { dst := some 196, op := Go.Op.fieldAddr 38 (Go.Operand.tmp 13) 2, type := 0, pos := "laws.go:1698", after := #[], guard := none }) (v := ?_) rfl (by kernel_rfl) (by kernel_rfl) (by kernel_rfl) (fun _ _ _ h => h) (Or.inl ⟨by rfl, ?_⟩) (by assumption) ?_
                rotate_left
                · (intro w hSw; (try dsimp only at hSw); go_simp <;> try with_reducible rfl)
                try simp only [Act.put, List.setIfInBounds_toArray, List.set_cons_zero, List.set_cons_succ]
                refine wpAnyH_take (i := 9) (oi := { dst := some 197, op := Go.Op.load 3 (Go.Operand.tmp 196), type := 3, pos := "laws.go:1698", after := #[{ on := 8, ground := Go.Ground.data }], guard := none }) (v := ?_) rfl (by kernel_rfl) (by kernel_rfl) (by kernel_rfl) (fun _ _ _ h => h) (Or.inl ⟨by rfl, ?_⟩) (by assumption) ?_
                rotate_left
                · (intro w hSw; (try dsimp only at hSw); go_simp <;> try with_reducible rfl)
                try simp only [Act.put, List.setIfInBounds_toArray, List.set_cons_zero, List.set_cons_succ]
                refine wpAnyH_ready (rs := [7]) (by kernel_rfl) (by simp) ?_
                refine AllReadyH.cons (o := { dst := some 195, op := Go.Op.load 3 (Go.Operand.tmp 194), type := 3, pos := "laws.go:1698", after := #[{ on := 6, ground := Go.Ground.data }], guard := none }) rfl (fun K hK => ?_) (AllReadyH.nil)
                have hce := HCE.out
                go_simp
                refine hK.out _ _ (by exact HX.out) (fun hHeld => ?_)
                clear hK K hce
                try simp only [Act.put, List.setIfInBounds_toArray, List.set_cons_zero, List.set_cons_succ]
                refine wpAnyH_take (i := 10) (oi := { dst := some 198, op := Go.Op.binOp Go.BinOp.sub 3 (Go.Operand.tmp 195) (Go.Operand.tmp 197) 3, type := 3, pos := "laws.go:1698", after := #[{ on := 7, ground := Go.Ground.data }, { on := 9, ground := Go.Ground.data }], guard := none }) (v := ?_) rfl (by kernel_rfl) (by kernel_rfl) (by kernel_rfl) (fun _ _ _ h => h) (Or.inl ⟨by rfl, ?_⟩) (by assumption) ?_
                rotate_left
                · (intro w hSw; (try dsimp only at hSw); go_simp <;> try with_reducible rfl)
                try simp only [Act.put, List.setIfInBounds_toArray, List.set_cons_zero, List.set_cons_succ]
                refine wpAnyH_take (i := 11) (oi := { dst := some 199, op := Go.Op.indexAddr 24 (Go.Operand.tmp 188) (Go.Operand.tmp 190), type := 0, pos := "laws.go:1698", after := #[{ on := 0, ground := Go.Ground.data }, { on := 2, ground := Go.Ground.data }, { on := 0, ground := Go.Ground.phase }, { on := 1, ground := Go.Ground.phase }, { on := 2, ground := Go.Ground.phase }, { on := 3, ground := Go.Ground.phase }, { on := 4, ground := Go.Ground.phase }, { on := 5, ground := Go.Ground.phase }, { on := 6, ground := Go.Ground.phase }, { on := 7, ground := Go.Ground.phase }, { on := 8, ground := Go.Ground.phase }, { on := 9, ground := Go.Ground.phase }, { on := 10, ground := Go.Ground.phase }], guard := none }) (v := ?_) rfl (by kernel_rfl) (by kernel_rfl) (by kernel_rfl) (fun _ _ _ h => h) (Or.inl ⟨by rfl, ?_⟩) (by assumption) ?_
                rotate_left
                · (intro w hSw; (try dsimp only at hSw); go_simp <;> try with_reducible rfl)
                try simp only [Act.put, List.setIfInBounds_toArray, List.set_cons_zero, List.set_cons_succ]
                refine wpAnyH_ready (rs := [12]) (by kernel_rfl) (by simp) ?_
                refine AllReadyH.cons (o := { dst := none, op := Go.Op.store 3 (Go.Operand.tmp 199) (Go.Operand.tmp 198), type := 0, pos := "laws.go:1698", after := #[{ on := 11, ground := Go.Ground.data }, { on := 10, ground := Go.Ground.data }, { on := 0, ground := Go.Ground.phase }, { on := 1, ground := Go.Ground.phase }, { on := 2, ground := Go.Ground.phase }, { on := 3, ground := Go.Ground.phase }, { on := 4, ground := Go.Ground.phase }, { on := 5, ground := Go.Ground.phase }, { on := 6, ground := Go.Ground.phase }, { on := 7, ground := Go.Ground.phase }, { on := 8, ground := Go.Ground.phase }, { on := 9, ground := Go.Ground.phase }, { on := 10, ground := Go.Ground.phase }], guard := none }) rfl (fun K hK => ?_) (AllReadyH.nil)
                go_simp
                refine hK.out _ _ (by exact HY.out) (fun hHeld => ?_)
                clear hK K
                try simp only [Act.put, List.setIfInBounds_toArray, List.set_cons_zero, List.set_cons_succ]
                refine wpAnyH_done (by kernel_rfl) ?_ _
                refine NoPanic.normal ?_
                clear hHeld HX HY HCE
                clear fb
                have HH12 : Hid (IB (w11.setCell ⟨B + 1, j0, none⟩ (.int .i64 (E - X))).drew B k (sq c d k q (t + 1)).1 ∧ IB (w11.setCell ⟨B + 1, j0, none⟩ (.int .i64 (E - X))).drew (B + 1) q (sq c d k q (t + 1)).2 ∧ Below w4.heap.size w4 (w11.setCell ⟨B + 1, j0, none⟩ (.int .i64 (E - X))).drew) := hid ⟨IB.dr (HH11.out.1.other _ (by omega)), IB.dr (by rw [HS2.out]; exact HH11.out.2.1.set HIJ.out.2 _), (HH11.out.2.2.setCell (by rw [HBe.out]; exact Nat.le_succ _) _).drew⟩
                replace x1 := cell_oth (a := B + 1) (p := j0) (u := .int .i64 (E - X)) nB1 x1
                replace x2 := cell_oth (a := B + 1) (p := j0) (u := .int .i64 (E - X)) nB1 x2
                clear x3 cb HH11
                generalize (w11.setCell ⟨B + 1, j0, none⟩ (.int .i64 (E - X))).drew = w12 at HH12 x1 x2 ⊢
                have ca2 : w12.cell? ⟨B, i0, none⟩ = some (.int .i64 (A - X)) := by have := HH12.out.1.cell HIJ.out.1; rw [HS1.out, upd_i] at this; exact this
                have cb2 : w12.cell? ⟨B + 1, j0, none⟩ = some (.int .i64 (E - X)) := by have := HH12.out.2.1.cell HIJ.out.2; rw [HS2.out, upd_i] at this; exact this
                have dv1 : decide (A - X < 0) = false := decide_eq_false (by omega)
                have dv2 : decide (E - X < 0) = false := decide_eq_false (by omega)
                go_wp2
                go_roundw
                case rel => exact ⟨t + 1, by omega, by go_num, HH12.out⟩
                case measure => simp [intOf]; omega
              · obtain ⟨t', ht'⟩ : ∃ t', t = t' + 1 := ⟨t - 1, by omega⟩
                obtain ⟨l1, l2, l3, l4⟩ := HDY.out t' ht'
                have dt : decide ((0 : Int) < (t : Int)) = true := decide_eq_true (by omega)
                have dt2 : decide (0 < t) = true := decide_eq_true (by omega)
                have hwr : IntKind.i64.wrap ((t : Int) - 1) = (t' : Int) := by rw [IntWalk.i64_in _ ⟨by omega, by omega⟩]; omega
                have hlt' : (t' : Int) < (M : Int) := by omega
                obtain ⟨q0, q1, _⟩ := (HRg.out w8 HH.out.2.2).cell (j := t') (by omega)
                rw [show paF c d k q t' = ⟨(iF c d k q t' : Int), (jF c d k q t' : Int), xF c d k q t'⟩ from rfl] at q0 q1
                simp only at q0 q1
                obtain ⟨r0, _⟩ := (HRa.out w8 HH.out.2.2).cell l3
                obtain ⟨s0, _⟩ := (HRb.out w8 HH.out.2.2).cell l4
                simp only [Nat.zero_add] at r0 s0
                obtain ⟨i1, hi1⟩ : ∃ i, iF c d k q t' = i := ⟨_, rfl⟩
                obtain ⟨j1, hj1⟩ : ∃ i, jF c d k q t' = i := ⟨_, rfl⟩
                rw [hi1] at q0 r0 l1 l3
                rw [hj1] at q1 s0 l2 l4
                obtain ⟨D2, hD2⟩ : ∃ D, (c i1).day = D := ⟨_, rfl⟩
                obtain ⟨E2, hE2⟩ : ∃ D, (d j1).day = D := ⟨_, rfl⟩
                rw [hD2] at r0 l1
                rw [hE2] at s0 l2
                have i3 : (i1 : Int) < (k : Int) := by omega
                have j3 : (j1 : Int) < (q : Int) := by omega
                have dd : decide (D1 < D2) = false := decide_eq_false (by omega)
                have de : decide (E1 < E2) = false := decide_eq_false (by omega)
                clear ht' ht0 hi1 hj1 hD2 hE2
                go_wp2
                have bb : Below w8.heap.size w8 (w8.alloc (.cells #[.int .i64 (i0 : Int), .int .i64 (j0 : Int), .int .i64 X] 38 (0, 0))) := (Below.refl _ _).alloc (Nat.le_refl _) _
                replace p0 := keep_cell bb p0
                replace p1 := keep_cell bb p1
                replace p2 := keep_cell bb p2
                replace d0 := keep_cell bb d0
                replace e0 := keep_cell bb e0
                replace ca := keep_cell bb ca
                replace cb := keep_cell bb cb
                replace q0 := keep_cell bb q0
                replace q1 := keep_cell bb q1
                replace r0 := keep_cell bb r0
                replace s0 := keep_cell bb s0
                have x1 : (w8.alloc (.cells #[.int .i64 (i0 : Int), .int .i64 (j0 : Int), .int .i64 X] 38 (0, 0))).cell? ⟨w8.heap.size, 0, none⟩ = some (.int .i64 (i0 : Int)) := ((CB.new (w := w8) _ _).cell 0).trans rfl
                have x2 : (w8.alloc (.cells #[.int .i64 (i0 : Int), .int .i64 (j0 : Int), .int .i64 X] 38 (0, 0))).cell? ⟨w8.heap.size, 1, none⟩ = some (.int .i64 (j0 : Int)) := ((CB.new (w := w8) _ _).cell 1).trans rfl
                have x3 : (w8.alloc (.cells #[.int .i64 (i0 : Int), .int .i64 (j0 : Int), .int .i64 X] 38 (0, 0))).cell? ⟨w8.heap.size, 2, none⟩ = some (.int .i64 X) := ((CB.new (w := w8) _ _).cell 2).trans rfl
                have HH9 : Hid (IB (w8.alloc (.cells #[.int .i64 (i0 : Int), .int .i64 (j0 : Int), .int .i64 X] 38 (0, 0))) B k (sq c d k q t).1 ∧ IB (w8.alloc (.cells #[.int .i64 (i0 : Int), .int .i64 (j0 : Int), .int .i64 X] 38 (0, 0))) (B + 1) q (sq c d k q t).2 ∧ Below w4.heap.size w4 (w8.alloc (.cells #[.int .i64 (i0 : Int), .int .i64 (j0 : Int), .int .i64 X] 38 (0, 0)))) := hid ⟨HH.out.1.below bb, HH.out.2.1.below bb, bel_on HH.out.2.2 bb⟩
                clear fa fb HH bb hgl hg1l hg2l
                have nB0 : w8.heap.size ≠ B := by omega
                have nB1 : w8.heap.size ≠ B + 1 := by omega
                clear hBl hBl1
                generalize w8.alloc (.cells #[.int .i64 (i0 : Int), .int .i64 (j0 : Int), .int .i64 X] 38 (0, 0)) = w9 at p0 p1 p2 d0 e0 ca cb x1 x2 x3 HH9 q0 q1 r0 s0 ⊢
                generalize w8.heap.size = NB at x1 x2 x3 nB0 nB1 ⊢
                go_quiet (fail)
                go_wp2
                clear q0 q1 r0 s0
                replace HH9 : Hid (IB (w9.drewN nq) B k (sq c d k q t).1 ∧ IB (w9.drewN nq) (B + 1) q (sq c d k q t).2 ∧ Below w4.heap.size w4 (w9.drewN nq)) := hid ⟨HH9.out.1.below (bd_N (Below.refl _ _) _), HH9.out.2.1.below (bd_N (Below.refl _ _) _), bel_on HH9.out.2.2 (bd_N (Below.refl _ _) _)⟩
                replace x1 : (w9.drewN nq).cell? ⟨NB, 0, none⟩ = some (.int .i64 (i0 : Int)) := x1
                replace x2 : (w9.drewN nq).cell? ⟨NB, 1, none⟩ = some (.int .i64 (j0 : Int)) := x2
                replace x3 : (w9.drewN nq).cell? ⟨NB, 2, none⟩ = some (.int .i64 X) := x3
                replace ca : (w9.drewN nq).cell? ⟨B, i0, none⟩ = some (.int .i64 A) := ca
                replace cb : (w9.drewN nq).cell? ⟨B + 1, j0, none⟩ = some (.int .i64 E) := cb
                clear p0 p1 p2 d0 e0
                generalize w9.drewN nq = w10 at HH9 x1 x2 x3 ca cb ⊢
                have hwA : IntKind.i64.wrap (A - X) = A - X := IntWalk.i64_in _ ⟨by omega, by omega⟩
                have hwE : IntKind.i64.wrap (E - X) = E - X := IntWalk.i64_in _ ⟨by omega, by omega⟩
                have fa := HH9.out.1.fr i0
                have HX : Hid (w10.drew.cell? ⟨NB, 0, none⟩ = some (.int .i64 (i0 : Int)) ∧ w10.drew.cell? ⟨NB, 1, none⟩ = some (.int .i64 (j0 : Int)) ∧ w10.drew.cell? ⟨NB, 2, none⟩ = some (.int .i64 X)) := hid ⟨x1, x2, x3⟩
                have HY : Hid ((w10.setCell ⟨B, i0, none⟩ (.int .i64 (A - X))).drew.cell? ⟨NB, 0, none⟩ = some (.int .i64 (i0 : Int)) ∧ (w10.setCell ⟨B, i0, none⟩ (.int .i64 (A - X))).drew.cell? ⟨NB, 1, none⟩ = some (.int .i64 (j0 : Int)) ∧ (w10.setCell ⟨B, i0, none⟩ (.int .i64 (A - X))).drew.cell? ⟨NB, 2, none⟩ = some (.int .i64 X)) := hid ⟨cell_oth nB0 x1, cell_oth nB0 x2, cell_oth nB0 x3⟩
                have HCE : Hid (w10.drew.cell? ⟨B, i0, none⟩ = some (.int .i64 A)) := ca
                refine wp_region_noPanic ?_
                refine wp_region_held_drew (S := fun w' => w'.cell? ⟨NB, 0, none⟩ = some (.int .i64 (i0 : Int)) ∧ w'.cell? ⟨NB, 1, none⟩ = some (.int .i64 (j0 : Int)) ∧ w'.cell? ⟨NB, 2, none⟩ = some (.int .i64 X)) (by kernel_rfl) (by exact HX.out) (fun hHeld => ?_)
                refine wpAnyH_take (i := 0) (oi := { dst := some 176, op := Go.Op.move (Go.Operand.tmp 8), type := 24, pos := "laws.go:1697", after := #[], guard := none }) (v := ?_) rfl (by kernel_rfl) (by kernel_rfl) (by kernel_rfl) (fun _ _ _ h => h) (Or.inl ⟨by rfl, ?_⟩) (by assumption) ?_
                rotate_left
                · (intro w hSw; (try dsimp only at hSw); go_simp <;> try with_reducible rfl)
                try simp only [Act.put, List.setIfInBounds_toArray, List.set_cons_zero, List.set_cons_succ]
                refine wpAnyH_take (i := 1) (oi := { dst := some 177, op := Go.Op.fieldAddr 38 (Go.Operand.tmp 13) 0, type := 0, pos := "laws.go:1697", after := #[], guard := none }) (v := ?_) rfl (by kernel_rfl) (by kernel_rfl) (by kernel_rfl) (fun _ _ _ h => h) (Or.inl ⟨by rfl, ?_⟩) (by assumption) ?_
                rotate_left
                · (intro w hSw; (try dsimp only at hSw); go_simp <;> try with_reducible rfl)
                try simp only [Act.put, List.setIfInBounds_toArray, List.set_cons_zero, List.set_cons_succ]
                refine wpAnyH_take (i := 2) (oi := { dst := some 178, op := Go.Op.load 3 (Go.Operand.tmp 177), type := 3, pos := "laws.go:1697", after := #[{ on := 1, ground := Go.Ground.data }], guard := none }) (v := ?_) rfl (by kernel_rfl) (by kernel_rfl) (by kernel_rfl) (fun _ _ _ h => h) (Or.inl ⟨by rfl, ?_⟩) (by assumption) ?_
                rotate_left
                · (intro w hSw; (try dsimp only at hSw); go_simp <;> try with_reducible rfl)
                try simp only [Act.put, List.setIfInBounds_toArray, List.set_cons_zero, List.set_cons_succ]
                refine wpAnyH_take (i := 3) (oi := { dst := some 179, op := Go.Op.move (Go.Operand.tmp 8), type := 24, pos := "laws.go:1697", after := #[], guard := none }) (v := ?_) rfl (by kernel_rfl) (by kernel_rfl) (by kernel_rfl) (fun _ _ _ h => h) (Or.inl ⟨by rfl, ?_⟩) (by assumption) ?_
                rotate_left
                · (intro w hSw; (try dsimp only at hSw); go_simp <;> try with_reducible rfl)
                try simp only [Act.put, List.setIfInBounds_toArray, List.set_cons_zero, List.set_cons_succ]
                refine wpAnyH_take (i := 4) (oi := { dst := some 180, op := Go.Op.fieldAddr 38 (Go.Operand.tmp 13) 0, type := 0, pos := "laws.go:1697", after := #[], guard := none }) (v := ?_) rfl (by kernel_rfl) (by kernel_rfl) (by kernel_rfl) (fun _ _ _ h => h) (Or.inl ⟨by rfl, ?_⟩) (by assumption) ?_
                rotate_left
                · (intro w hSw; (try dsimp only at hSw); go_simp <;> try with_reducible rfl)
                try simp only [Act.put, List.setIfInBounds_toArray, List.set_cons_zero, List.set_cons_succ]
                refine wpAnyH_take (i := 5) (oi := { dst := some 181, op := Go.Op.load 3 (Go.Operand.tmp 180), type := 3, pos := "laws.go:1697", after := #[{ on := 4, ground := Go.Ground.data }], guard := none }) (v := ?_) rfl (by kernel_rfl) (by kernel_rfl) (by kernel_rfl) (fun _ _ _ h => h) (Or.inl ⟨by rfl, ?_⟩) (by assumption) ?_
                rotate_left
                · (intro w hSw; (try dsimp only at hSw); go_simp <;> try with_reducible rfl)
                try simp only [Act.put, List.setIfInBounds_toArray, List.set_cons_zero, List.set_cons_succ]
                refine wpAnyH_take (i := 6) (oi := { dst := some 182, op := Go.Op.indexAddr 24 (Go.Operand.tmp 179) (Go.Operand.tmp 181), type := 0, pos := "laws.go:1697", after := #[{ on := 3, ground := Go.Ground.data }, { on := 5, ground := Go.Ground.data }], guard := none }) (v := ?_) rfl (by kernel_rfl) (by kernel_rfl) (by kernel_rfl) (fun _ _ _ h => h) (Or.inl ⟨by rfl, ?_⟩) (by assumption) ?_
                rotate_left
                · (intro w hSw; (try dsimp only at hSw); go_simp <;> try with_reducible rfl)
                try simp only [Act.put, List.setIfInBounds_toArray, List.set_cons_zero, List.set_cons_succ]
                refine wpAnyH_take (i := 8) (oi := { dst := some 184, op := Go.Op.fieldAddr 38 (Go.Operand.tmp 13) 2, type := 0, pos := "laws.go:1697", after := #[], guard := none }) (v := ?_) rfl (by kernel_rfl) (by kernel_rfl) (by kernel_rfl) (fun _ _ _ h => h) (Or.inl ⟨by rfl, ?_⟩) (by assumption) ?_
                rotate_left
                · (intro w hSw; (try dsimp only at hSw); go_simp <;> try with_reducible rfl)
                try simp only [Act.put, List.setIfInBounds_toArray, List.set_cons_zero, List.set_cons_succ]
                refine wpAnyH_take (i := 9) (oi := { dst := some 185, op := Go.Op.load 3 (Go.Operand.tmp 184), type := 3, pos := "laws.go:1697", after := #[{ on := 8, ground := Go.Ground.data }], guard := none }) (v := ?_) rfl (by kernel_rfl) (by kernel_rfl) (by kernel_rfl) (fun _ _ _ h => h) (Or.inl ⟨by rfl, ?_⟩) (by assumption) ?_
                rotate_left
                · (intro w hSw; (try dsimp only at hSw); go_simp <;> try with_reducible rfl)
                try simp only [Act.put, List.setIfInBounds_toArray, List.set_cons_zero, List.set_cons_succ]
                refine wpAnyH_ready (rs := [7]) (by kernel_rfl) (by simp) ?_
                refine AllReadyH.cons (o := { dst := some 183, op := Go.Op.load 3 (Go.Operand.tmp 182), type := 3, pos := "laws.go:1697", after := #[{ on := 6, ground := Go.Ground.data }], guard := none }) rfl (fun K hK => ?_) (AllReadyH.nil)
                have hce := HCE.out
                go_simp
                refine hK.out _ _ (by exact HX.out) (fun hHeld => ?_)
                clear hK K hce
                try simp only [Act.put, List.setIfInBounds_toArray, List.set_cons_zero, List.set_cons_succ]
                refine wpAnyH_take (i := 10) (oi := { dst := some 186, op := Go.Op.binOp Go.BinOp.sub 3 (Go.Operand.tmp 183) (Go.Operand.tmp 185) 3, type := 3, pos := "laws.go:1697", after := #[{ on := 7, ground := Go.Ground.data }, { on := 9, ground := Go.Ground.data }], guard := none }) (v := ?_) rfl (by kernel_rfl) (by kernel_rfl) (by kernel_rfl) (fun _ _ _ h => h) (Or.inl ⟨by rfl, ?_⟩) (by assumption) ?_
                rotate_left
                · (intro w hSw; (try dsimp only at hSw); go_simp <;> try with_reducible rfl)
                try simp only [Act.put, List.setIfInBounds_toArray, List.set_cons_zero, List.set_cons_succ]
                refine wpAnyH_take (i := 11) (oi := { dst := some 187, op := Go.Op.indexAddr 24 (Go.Operand.tmp 176) (Go.Operand.tmp 178), type := 0, pos := "laws.go:1697", after := #[{ on := 0, ground := Go.Ground.data }, { on := 2, ground := Go.Ground.data }, { on := 0, ground := Go.Ground.phase }, { on := 1, ground := Go.Ground.phase }, { on := 2, ground := Go.Ground.phase }, { on := 3, ground := Go.Ground.phase }, { on := 4, ground := Go.Ground.phase }, { on := 5, ground := Go.Ground.phase }, { on := 6, ground := Go.Ground.phase }, { on := 7, ground := Go.Ground.phase }, { on := 8, ground := Go.Ground.phase }, { on := 9, ground := Go.Ground.phase }, { on := 10, ground := Go.Ground.phase }], guard := none }) (v := ?_) rfl (by kernel_rfl) (by kernel_rfl) (by kernel_rfl) (fun _ _ _ h => h) (Or.inl ⟨by rfl, ?_⟩) (by assumption) ?_
                rotate_left
                · (intro w hSw; (try dsimp only at hSw); go_simp <;> try with_reducible rfl)
                try simp only [Act.put, List.setIfInBounds_toArray, List.set_cons_zero, List.set_cons_succ]
                refine wpAnyH_ready (rs := [12]) (by kernel_rfl) (by simp) ?_
                refine AllReadyH.cons (o := { dst := none, op := Go.Op.store 3 (Go.Operand.tmp 187) (Go.Operand.tmp 186), type := 0, pos := "laws.go:1697", after := #[{ on := 11, ground := Go.Ground.data }, { on := 10, ground := Go.Ground.data }, { on := 0, ground := Go.Ground.phase }, { on := 1, ground := Go.Ground.phase }, { on := 2, ground := Go.Ground.phase }, { on := 3, ground := Go.Ground.phase }, { on := 4, ground := Go.Ground.phase }, { on := 5, ground := Go.Ground.phase }, { on := 6, ground := Go.Ground.phase }, { on := 7, ground := Go.Ground.phase }, { on := 8, ground := Go.Ground.phase }, { on := 9, ground := Go.Ground.phase }, { on := 10, ground := Go.Ground.phase }], guard := none }) rfl (fun K hK => ?_) (AllReadyH.nil)
                go_simp
                refine hK.out _ _ (by exact HY.out) (fun hHeld => ?_)
                clear hK K
                try simp only [Act.put, List.setIfInBounds_toArray, List.set_cons_zero, List.set_cons_succ]
                refine wpAnyH_done (by kernel_rfl) ?_ _
                refine NoPanic.normal ?_
                clear hHeld HX HY HCE
                clear fa
                have HH11 : Hid (IB (w10.setCell ⟨B, i0, none⟩ (.int .i64 (A - X))).drew B k (sq c d k q (t + 1)).1 ∧ IB (w10.setCell ⟨B, i0, none⟩ (.int .i64 (A - X))).drew (B + 1) q (sq c d k q t).2 ∧ Below w4.heap.size w4 (w10.setCell ⟨B, i0, none⟩ (.int .i64 (A - X))).drew) := hid ⟨IB.dr (by rw [HS1.out]; exact HH9.out.1.set HIJ.out.1 _), IB.dr (HH9.out.2.1.other _ (by omega)), (HH9.out.2.2.setCell (by rw [HBe.out]; exact Nat.le_refl _) _).drew⟩
                replace x1 := cell_oth (a := B) (p := i0) (u := .int .i64 (A - X)) nB0 x1
                replace x2 := cell_oth (a := B) (p := i0) (u := .int .i64 (A - X)) nB0 x2
                replace x3 := cell_oth (a := B) (p := i0) (u := .int .i64 (A - X)) nB0 x3
                replace cb := cell_oth (a := B) (p := i0) (u := .int .i64 (A - X)) (by omega) cb
                clear ca HH9
                generalize (w10.setCell ⟨B, i0, none⟩ (.int .i64 (A - X))).drew = w11 at HH11 x1 x2 x3 cb ⊢
                have fb := HH11.out.2.1.fr j0
                go_wp2
                have HX : Hid (w11.drew.cell? ⟨NB, 0, none⟩ = some (.int .i64 (i0 : Int)) ∧ w11.drew.cell? ⟨NB, 1, none⟩ = some (.int .i64 (j0 : Int)) ∧ w11.drew.cell? ⟨NB, 2, none⟩ = some (.int .i64 X)) := hid ⟨x1, x2, x3⟩
                have HY : Hid ((w11.setCell ⟨B + 1, j0, none⟩ (.int .i64 (E - X))).drew.cell? ⟨NB, 0, none⟩ = some (.int .i64 (i0 : Int)) ∧ (w11.setCell ⟨B + 1, j0, none⟩ (.int .i64 (E - X))).drew.cell? ⟨NB, 1, none⟩ = some (.int .i64 (j0 : Int)) ∧ (w11.setCell ⟨B + 1, j0, none⟩ (.int .i64 (E - X))).drew.cell? ⟨NB, 2, none⟩ = some (.int .i64 X)) := hid ⟨cell_oth nB1 x1, cell_oth nB1 x2, cell_oth nB1 x3⟩
                have HCE : Hid (w11.drew.cell? ⟨B + 1, j0, none⟩ = some (.int .i64 E)) := cb
                refine wp_region_noPanic ?_
                refine wp_region_held_drew (S := fun w' => w'.cell? ⟨NB, 0, none⟩ = some (.int .i64 (i0 : Int)) ∧ w'.cell? ⟨NB, 1, none⟩ = some (.int .i64 (j0 : Int)) ∧ w'.cell? ⟨NB, 2, none⟩ = some (.int .i64 X)) (by kernel_rfl) (by exact HX.out) (fun hHeld => ?_)
                refine wpAnyH_take (i := 0) (oi := { dst := some 188, op := Go.Op.move (Go.Operand.tmp 9), type := 24, pos := "laws.go:1698", after := #[], guard := none }) (v := ?_) rfl (by kernel_rfl) (by kernel_rfl) (by kernel_rfl) (fun _ _ _ h => h) (Or.inl ⟨by rfl, ?_⟩) (by assumption) ?_
                rotate_left
                · (intro w hSw; (try dsimp only at hSw); go_simp <;> try with_reducible rfl)
                try simp only [Act.put, List.setIfInBounds_toArray, List.set_cons_zero, List.set_cons_succ]
                refine wpAnyH_take (i := 1) (oi := { dst := some 189, op := Go.Op.fieldAddr 38 (Go.Operand.tmp 13) 1, type := 0, pos := "laws.go:1698", after := #[], guard := none }) (v := ?_) rfl (by kernel_rfl) (by kernel_rfl) (by kernel_rfl) (fun _ _ _ h => h) (Or.inl ⟨by rfl, ?_⟩) (by assumption) ?_
                rotate_left
                · (intro w hSw; (try dsimp only at hSw); go_simp <;> try with_reducible rfl)
                try simp only [Act.put, List.setIfInBounds_toArray, List.set_cons_zero, List.set_cons_succ]
                refine wpAnyH_take (i := 2) (oi := { dst := some 190, op := Go.Op.load 3 (Go.Operand.tmp 189), type := 3, pos := "laws.go:1698", after := #[{ on := 1, ground := Go.Ground.data }], guard := none }) (v := ?_) rfl (by kernel_rfl) (by kernel_rfl) (by kernel_rfl) (fun _ _ _ h => h) (Or.inl ⟨by rfl, ?_⟩) (by assumption) ?_
                rotate_left
                · (intro w hSw; (try dsimp only at hSw); go_simp <;> try with_reducible rfl)
                try simp only [Act.put, List.setIfInBounds_toArray, List.set_cons_zero, List.set_cons_succ]
                refine wpAnyH_take (i := 3) (oi := { dst := some 191, op := Go.Op.move (Go.Operand.tmp 9), type := 24, pos := "laws.go:1698", after := #[], guard := none }) (v := ?_) rfl (by kernel_rfl) (by kernel_rfl) (by kernel_rfl) (fun _ _ _ h => h) (Or.inl ⟨by rfl, ?_⟩) (by assumption) ?_
                rotate_left
                · (intro w hSw; (try dsimp only at hSw); go_simp <;> try with_reducible rfl)
                try simp only [Act.put, List.setIfInBounds_toArray, List.set_cons_zero, List.set_cons_succ]
                refine wpAnyH_take (i := 4) (oi := { dst := some 192, op := Go.Op.fieldAddr 38 (Go.Operand.tmp 13) 1, type := 0, pos := "laws.go:1698", after := #[], guard := none }) (v := ?_) rfl (by kernel_rfl) (by kernel_rfl) (by kernel_rfl) (fun _ _ _ h => h) (Or.inl ⟨by rfl, ?_⟩) (by assumption) ?_
                rotate_left
                · (intro w hSw; (try dsimp only at hSw); go_simp <;> try with_reducible rfl)
                try simp only [Act.put, List.setIfInBounds_toArray, List.set_cons_zero, List.set_cons_succ]
                refine wpAnyH_take (i := 5) (oi := { dst := some 193, op := Go.Op.load 3 (Go.Operand.tmp 192), type := 3, pos := "laws.go:1698", after := #[{ on := 4, ground := Go.Ground.data }], guard := none }) (v := ?_) rfl (by kernel_rfl) (by kernel_rfl) (by kernel_rfl) (fun _ _ _ h => h) (Or.inl ⟨by rfl, ?_⟩) (by assumption) ?_
                rotate_left
                · (intro w hSw; (try dsimp only at hSw); go_simp <;> try with_reducible rfl)
                try simp only [Act.put, List.setIfInBounds_toArray, List.set_cons_zero, List.set_cons_succ]
                refine wpAnyH_take (i := 6) (oi := { dst := some 194, op := Go.Op.indexAddr 24 (Go.Operand.tmp 191) (Go.Operand.tmp 193), type := 0, pos := "laws.go:1698", after := #[{ on := 3, ground := Go.Ground.data }, { on := 5, ground := Go.Ground.data }], guard := none }) (v := ?_) rfl (by kernel_rfl) (by kernel_rfl) (by kernel_rfl) (fun _ _ _ h => h) (Or.inl ⟨by rfl, ?_⟩) (by assumption) ?_
                rotate_left
                · (intro w hSw; (try dsimp only at hSw); go_simp <;> try with_reducible rfl)
                try simp only [Act.put, List.setIfInBounds_toArray, List.set_cons_zero, List.set_cons_succ]
                refine wpAnyH_take (i := 8) (oi := { dst := some 196, op := Go.Op.fieldAddr 38 (Go.Operand.tmp 13) 2, type := 0, pos := "laws.go:1698", after := #[], guard := none }) (v := ?_) rfl (by kernel_rfl) (by kernel_rfl) (by kernel_rfl) (fun _ _ _ h => h) (Or.inl ⟨by rfl, ?_⟩) (by assumption) ?_
                rotate_left
                · (intro w hSw; (try dsimp only at hSw); go_simp <;> try with_reducible rfl)
                try simp only [Act.put, List.setIfInBounds_toArray, List.set_cons_zero, List.set_cons_succ]
                refine wpAnyH_take (i := 9) (oi := { dst := some 197, op := Go.Op.load 3 (Go.Operand.tmp 196), type := 3, pos := "laws.go:1698", after := #[{ on := 8, ground := Go.Ground.data }], guard := none }) (v := ?_) rfl (by kernel_rfl) (by kernel_rfl) (by kernel_rfl) (fun _ _ _ h => h) (Or.inl ⟨by rfl, ?_⟩) (by assumption) ?_
                rotate_left
                · (intro w hSw; (try dsimp only at hSw); go_simp <;> try with_reducible rfl)
                try simp only [Act.put, List.setIfInBounds_toArray, List.set_cons_zero, List.set_cons_succ]
                refine wpAnyH_ready (rs := [7]) (by kernel_rfl) (by simp) ?_
                refine AllReadyH.cons (o := { dst := some 195, op := Go.Op.load 3 (Go.Operand.tmp 194), type := 3, pos := "laws.go:1698", after := #[{ on := 6, ground := Go.Ground.data }], guard := none }) rfl (fun K hK => ?_) (AllReadyH.nil)
                have hce := HCE.out
                go_simp
                refine hK.out _ _ (by exact HX.out) (fun hHeld => ?_)
                clear hK K hce
                try simp only [Act.put, List.setIfInBounds_toArray, List.set_cons_zero, List.set_cons_succ]
                refine wpAnyH_take (i := 10) (oi := { dst := some 198, op := Go.Op.binOp Go.BinOp.sub 3 (Go.Operand.tmp 195) (Go.Operand.tmp 197) 3, type := 3, pos := "laws.go:1698", after := #[{ on := 7, ground := Go.Ground.data }, { on := 9, ground := Go.Ground.data }], guard := none }) (v := ?_) rfl (by kernel_rfl) (by kernel_rfl) (by kernel_rfl) (fun _ _ _ h => h) (Or.inl ⟨by rfl, ?_⟩) (by assumption) ?_
                rotate_left
                · (intro w hSw; (try dsimp only at hSw); go_simp <;> try with_reducible rfl)
                try simp only [Act.put, List.setIfInBounds_toArray, List.set_cons_zero, List.set_cons_succ]
                refine wpAnyH_take (i := 11) (oi := { dst := some 199, op := Go.Op.indexAddr 24 (Go.Operand.tmp 188) (Go.Operand.tmp 190), type := 0, pos := "laws.go:1698", after := #[{ on := 0, ground := Go.Ground.data }, { on := 2, ground := Go.Ground.data }, { on := 0, ground := Go.Ground.phase }, { on := 1, ground := Go.Ground.phase }, { on := 2, ground := Go.Ground.phase }, { on := 3, ground := Go.Ground.phase }, { on := 4, ground := Go.Ground.phase }, { on := 5, ground := Go.Ground.phase }, { on := 6, ground := Go.Ground.phase }, { on := 7, ground := Go.Ground.phase }, { on := 8, ground := Go.Ground.phase }, { on := 9, ground := Go.Ground.phase }, { on := 10, ground := Go.Ground.phase }], guard := none }) (v := ?_) rfl (by kernel_rfl) (by kernel_rfl) (by kernel_rfl) (fun _ _ _ h => h) (Or.inl ⟨by rfl, ?_⟩) (by assumption) ?_
                rotate_left
                · (intro w hSw; (try dsimp only at hSw); go_simp <;> try with_reducible rfl)
                try simp only [Act.put, List.setIfInBounds_toArray, List.set_cons_zero, List.set_cons_succ]
                refine wpAnyH_ready (rs := [12]) (by kernel_rfl) (by simp) ?_
                refine AllReadyH.cons (o := { dst := none, op := Go.Op.store 3 (Go.Operand.tmp 199) (Go.Operand.tmp 198), type := 0, pos := "laws.go:1698", after := #[{ on := 11, ground := Go.Ground.data }, { on := 10, ground := Go.Ground.data }, { on := 0, ground := Go.Ground.phase }, { on := 1, ground := Go.Ground.phase }, { on := 2, ground := Go.Ground.phase }, { on := 3, ground := Go.Ground.phase }, { on := 4, ground := Go.Ground.phase }, { on := 5, ground := Go.Ground.phase }, { on := 6, ground := Go.Ground.phase }, { on := 7, ground := Go.Ground.phase }, { on := 8, ground := Go.Ground.phase }, { on := 9, ground := Go.Ground.phase }, { on := 10, ground := Go.Ground.phase }], guard := none }) rfl (fun K hK => ?_) (AllReadyH.nil)
                go_simp
                refine hK.out _ _ (by exact HY.out) (fun hHeld => ?_)
                clear hK K
                try simp only [Act.put, List.setIfInBounds_toArray, List.set_cons_zero, List.set_cons_succ]
                refine wpAnyH_done (by kernel_rfl) ?_ _
                refine NoPanic.normal ?_
                clear hHeld HX HY HCE
                clear fb
                have HH12 : Hid (IB (w11.setCell ⟨B + 1, j0, none⟩ (.int .i64 (E - X))).drew B k (sq c d k q (t + 1)).1 ∧ IB (w11.setCell ⟨B + 1, j0, none⟩ (.int .i64 (E - X))).drew (B + 1) q (sq c d k q (t + 1)).2 ∧ Below w4.heap.size w4 (w11.setCell ⟨B + 1, j0, none⟩ (.int .i64 (E - X))).drew) := hid ⟨IB.dr (HH11.out.1.other _ (by omega)), IB.dr (by rw [HS2.out]; exact HH11.out.2.1.set HIJ.out.2 _), (HH11.out.2.2.setCell (by rw [HBe.out]; exact Nat.le_succ _) _).drew⟩
                replace x1 := cell_oth (a := B + 1) (p := j0) (u := .int .i64 (E - X)) nB1 x1
                replace x2 := cell_oth (a := B + 1) (p := j0) (u := .int .i64 (E - X)) nB1 x2
                clear x3 cb HH11
                generalize (w11.setCell ⟨B + 1, j0, none⟩ (.int .i64 (E - X))).drew = w12 at HH12 x1 x2 ⊢
                have ca2 : w12.cell? ⟨B, i0, none⟩ = some (.int .i64 (A - X)) := by have := HH12.out.1.cell HIJ.out.1; rw [HS1.out, upd_i] at this; exact this
                have cb2 : w12.cell? ⟨B + 1, j0, none⟩ = some (.int .i64 (E - X)) := by have := HH12.out.2.1.cell HIJ.out.2; rw [HS2.out, upd_i] at this; exact this
                have dv1 : decide (A - X < 0) = false := decide_eq_false (by omega)
                have dv2 : decide (E - X < 0) = false := decide_eq_false (by omega)
                go_wp2
                go_roundw
                case rel => exact ⟨t + 1, by omega, by go_num, HH12.out⟩
                case measure => simp [intOf]; omega
            · obtain rfl : t = M := by omega
              have ltt : ¬ (t : Int) < (t : Int) := by omega
              have z12 : k ≤ 12 ∧ q ≤ 12 := by omega
              obtain ⟨za, hza⟩ : ∃ z, (sq c d k q t).1 = z := ⟨_, rfl⟩
              obtain ⟨zb, hzb⟩ : ∃ z, (sq c d k q t).2 = z := ⟨_, rfl⟩
              have HI1 : Hid (IB w8 B k za) := hid (by rw [← hza]; exact HH.out.1)
              have HI2 : Hid (IB w8 (B + 1) q zb) := hid (by rw [← hzb]; exact HH.out.2.1)
              have HS1 : Hid (∀ cap, Calls Try.prog 36 #[.slice (some ⟨B, 0, none⟩) k cap] w8 fun e w' => e = .returned (.int .i64 (smI za k)) ∧ w' = w8) := hid (fun cap => sum_any B k cap za w8 z12.1 (by rw [← hza]; exact (HBD.out t HIS.out.1).1) HI1.out)
              have HS2 : Hid (∀ cap, Calls Try.prog 36 #[.slice (some ⟨B + 1, 0, none⟩) q cap] w8 fun e w' => e = .returned (.int .i64 (smI zb q)) ∧ w' = w8) := hid (fun cap => sum_any (B + 1) q cap zb w8 z12.2 (by rw [← hzb]; exact (HBD.out t HIS.out.1).2) HI2.out)
              have HZ : smI za k = 0 ∨ smI zb q = 0 := by rcases HEZ.out with h | h; (exact .inl (smI_zero (by rw [← hza]; exact h))); (exact .inr (smI_zero (by rw [← hzb]; exact h)))
              obtain ⟨Sa, hSa⟩ : ∃ S, smI za k = S := ⟨_, rfl⟩
              obtain ⟨Sb, hSb⟩ : ∃ S, smI zb q = S := ⟨_, rfl⟩
              rw [hSa] at HS1 HZ
              rw [hSb] at HS2 HZ
              clear hSa hSb hza hzb
              have HBf : Hid (Below w.heap.size w w8) := hid (HL4.out _ HH.out.2.2)
              have tokS : True := trivial
              by_cases h0 : Sa = 0
              · have h1 : (Sa == 0) = true := by simpa using h0
                go_wp2_with (go_at_call 36; refine (HS1.out _).mono ?_; rintro e wq ⟨rfl, ew⟩; replace ew := ew.symm; subst ew)
                go_returns
                exact ⟨rfl, HBf.out⟩
              · have h1 : (Sa == 0) = false := by simpa using h0
                have h2 : (Sb == 0) = true := by simpa using HZ.resolve_left h0
                clear HZ h0
                go_wp2_with (first | (go_at_call 36; clear tokS; refine (HS1.out _).mono ?_; rintro e wq ⟨rfl, ew⟩; replace ew := ew.symm; subst ew) | (go_at_call 36; refine (HS2.out _).mono ?_; rintro e wq ⟨rfl, ew⟩; replace ew := ew.symm; subst ew))
                go_returns
                exact ⟨rfl, HBf.out⟩

set_option maxRecDepth 100000 in
theorem lifted (os : Os) (started : os.Started) (H : Type) (enc : TypeId × Value → H) :
    ReturnsInHanded {} Try.checked os 7 .any (Rows.fnSettledSpec.pre6 enc Try.prog Try.f7 Rows.fnSettledRow.domain false) (Rows.fnSettledSpec.post enc Try.prog Try.f7 false true false false) := by
  refine returnsInHanded_of_change (C := Try.checked) own started (by kernel_rfl) Try.func7
    (ChangeSpec.witness6 (enc := enc) (C := Try.checked) false ⟨#[], #[.slice none 0 0], []⟩ 8 (by kernel_rfl) (by kernel_rfl) (by kernel_rfl) (by kernel_rfl)) ?_
  intro W base args ds gs before hval0 hW hcnd _
  have hval : ∀ (j : Nat) t v, Try.f7.params[j]? = some t → args[j]? = some v → Value.okWide Try.prog W .any base t v := hval0
  have hW' := hW
  obtain ⟨p, q, hA0, hV, rfl, hfz, hnd⟩ := hW
  have hA : DataW.TrodAll enc Try.prog W 0 (fun _ => true) true Try.f7.params.toList args.toList ds p := hA0
  rw [Try.params7] at hA hval
  obtain ⟨v0, vs0, d0, ds0, p0, q0, hargs, rfl, rfl, h0, r0⟩ := trodAll_cons hA
  obtain ⟨rfl, rfl, rfl⟩ := trodAll_nil r0
  obtain rfl : args = #[v0] := by cases args; simp_all
  obtain ⟨rfl, rfl⟩ := trodVars_none hV
  have k0 := h0
  have lt0 : ∀ x ∈ p0, x.block < W.heap.size := by obtain ⟨m, hm⟩ := k0; exact DataW.trod_lt m _ _ _ hm
  obtain ⟨a0, len0, cap0, rfl⟩ := okWide_slice Try.underlying22 (hval 0 22 v0 rfl rfl)
  obtain ⟨z0, w0⟩ : ∃ zs, IsRow .u8 W a0 len0 cap0 zs := by
    obtain ⟨fuel, hf⟩ := h0
    rcases open_ints Try.underlying22 Try.underlying5 (by kernel_rfl) hf with ⟨hcs, _⟩ | ⟨x, l, c, zs, hcs, _, hl, hm, hz, _, hcell, hwz⟩
    · simp [Value.cells] at hcs
      obtain ⟨rfl, rfl, rfl⟩ := hcs
      exact ⟨[], .inl ⟨rfl, rfl, rfl, rfl⟩⟩
    · simp [Value.cells] at hcs
      obtain ⟨rfl, rfl, rfl⟩ := hcs
      exact ⟨zs, .inr ⟨_, rfl, hl, hm, by simpa using hz, hcell, hwz⟩⟩
  clear hA0 hval0
  refine (walk a0 len0 cap0 z0 W w0).mono fun e W' ⟨he, hg⟩ => ?_
  subst he
  exact ⟨_, rfl, _, _, _, [], _, [], hW', (trodAll_cons_mk (shut_bool Try.underlying4 _) trodAll_mk0), (trodAll_cons_mk (Below.trod laidOut (by kernel_rfl) (of_decide_eq_true (by kernel_rfl)) k0 hg lt0) trodAll_mk0), rfl, hg.frame _, fun h => by cases h⟩

theorem over : Rows.fnSettledRow.holds Try.pinned (OpenSpec.ofChange Rows.fnSettledSpec) :=
  OpenClaim.holds_of_wide 7 Try.f7 rfl rfl rfl rfl rfl rfl rfl ⟨rfl, rfl, rfl, rfl, rfl⟩ rfl rfl rfl rfl rfl (by kernel_rfl) Try.func7 (by kernel_rfl)
    (of_decide_eq_true (by kernel_rfl)) (by unfold Func.isWrapper; first | (rw [if_pos (by decide +kernel)]; kernel_rfl) | (rw [if_neg (by decide +kernel)]; exact ⟨rfl, rfl⟩))
    (fun os started H enc _ => lifted os started H enc)

end Go.Proofs.Ytnglofgcckdbmaa.fnSettled

namespace Go.Proofs.Ytnglofgcckdbmaa
theorem fnSettled_holds : Rows.FnSettledSaid := fnSettled.over
#print axioms fnSettled_holds
end Go.Proofs.Ytnglofgcckdbmaa
