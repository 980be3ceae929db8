/- Of drawn items that bring nothing else, what they cost is what is bought of all that there must be, at its price, and twice that at twice the prices; no condition but what can be drawn. -/
import Derived.Test.YtmbdeafpfdeigaaRows
import Derived.WalkKit
import Derived.ProofKit
import Derived.OpenShut
import Derived.ShutString
import Derived.ChangeOld
import Derived.Below
import Derived.Handy
import Derived.Carry
import Derived.Lib.SmallJoins
import Derived.Deep.SlicePairs
import Derived.Test.YtmbdeafpfdeigaaJ4
namespace Go.Proofs.Ytmbdeafpfdeigaa.fnCosted
open Go.ChangeShapes Go.WideShapes Go.ChangeAt Go.RowKit
set_option linter.unusedVariables false
set_option linter.unusedSimpArgs false

theorem own : ownKnob Try.prog.godebug = none := by kernel_rfl
theorem laidOut : laidOutB Try.prog = true := by kernel_rfl

set_option maxRecDepth 20000 in
set_option maxHeartbeats 4000000 in
theorem walk (a0 : Option Addr) (len0 cap0 : Nat) (z0 : List Int) (w : World) (w0 : IsRow .u8 w a0 len0 cap0 z0) :
    Calls Try.prog 5 #[.slice a0 len0 cap0] w fun e w' => e = .returned (.bool true) ∧ Below w.heap.size w w' := by
  by_cases hbig : (1048576 : Int) < (len0 : Int)
  · go_enter Try.func5, Try.ntmps5
    go_wp2_with (go_at_call 16; refine (big_t _ _ _ _ hbig).mono ?_; rintro e w1 ⟨rfl, ew⟩; replace ew := ew.symm; subst ew)
    go_returns
    exact ⟨rfl, Below.refl _ _⟩
  have hb2 : (len0 : Int) ≤ 1048576 := by omega
  have HRW : Hid (ByteRow w w.heap.size a0 len0) := row_of w0
  clear w0 z0
  go_enter Try.func5, Try.ntmps5
  go_wp2_with (first
    | (go_at_call 16; refine (big_f _ _ _ _ hb2).mono ?_; rintro e wq ⟨rfl, ew⟩; replace ew := ew.symm; subst ew)
    | (go_at_call 25; refine (drawCost_any a0 len0 cap0 _ hb2 HRW.out).mono ?_; rintro e w2 ⟨ia0, n, ic, d, pa, m, pc, z, a, q, y, rfl, hn60, hr2, hd2, hq2, hm60, hp2, hz2q, b2, hsa⟩; obtain ⟨ia, rfl⟩ := hsa; have HB2 : Hid (Below w.heap.size w w2) := b2; have HR2 : Hid (ITr w2 (some ia) n d ∧ IR w2 pa m z) := hid ⟨hr2, hp2⟩; have HZQ := hid hz2q; have HIZ : Hid (IZ n d) := hid (fun j hj => ⟨by have := (hd2 j hj).1; unfold maxLen; omega, by have := (hd2 j hj).2.1; omega, by have := (hd2 j hj).2.2; omega⟩); have hn1 : (n : Int) ≤ 1048576 := (by omega); have hm1 : (m : Int) ≤ 1048576 := (by omega); clear hr2 hd2 b2 hp2 hz2q; have HBV : Hid (Below w.heap.size w w2) := HB2; have HRV : Hid (ITr w2 (some ia) n d) := hid HR2.out.1; obtain ⟨vs, v1, v2, v3, v4⟩ := it_vals HRV.out; have HVL : Hid (vs.length = n * 5) := v1; have HV1 : Hid (∀ v ∈ vs, v.oneCell' = true) := v2; have HVS : Hid (∀ j u, vs[j]? = some u → (w2.alloc (.cells #[] 31 (0, 0))).cell? (ia.add j) = some u) := hid (v3 _ ((Below.refl _ _).alloc (Nat.le_refl _) _)); have HV4 := hid v4; clear v1 v2 v3 v4; obtain ⟨i0, hi, hz0, hz1, hz2⟩ := infoIT)
    | (at_builtin; go_loud (refine wpList_append_own_at _ rfl _ _ 32 rfl w2.heap.size 31 i0 (.agg #[.string ByteArray.empty, .int .i64 0, .bool false, .slice none 0 0, .slice none 0 0]) 5 80 Try.underlying32 hi hz0 hz1 hz2 rfl (by decide) (.slice (some ⟨w2.heap.size, 0, none⟩) 0 0) 0 [] rfl (madeIT (CB.new _ _) (Nat.le_refl _)) ia n ic vs rfl HVL.out HVS.out HV1.out (by unfold maxLen; omega) (by omega) (by simp) ?_; intro v7 w7 hown hgrow _ _; rw [Nat.zero_add, List.nil_append] at hown; have HPL : Hid (PL w2 v7 n d w7) := hid (PL.of (below_app hgrow) hown HV4.out); clear hown hgrow)))
  clear HRW hi hz0 hz1 hz2 HVL HV1 HVS HV4
  obtain ⟨ad7, cap7, hv7, _⟩ := HPL.out.2
  have HP7 : Hid (n = 0 ∨ ∃ g, ad7 = some ⟨g, 0, none⟩ ∧ CI w2 g n d w7) := hid (by
    obtain ⟨_, ad8, cap8, e8, h8⟩ := HPL.out
    rw [hv7] at e8
    simp only [Value.slice.injEq] at e8
    obtain ⟨rfl, _⟩ := e8
    exact h8)
  have HB7 : Hid (Below w2.heap.size w2 w7) := HPL.out.1
  subst hv7
  clear HPL
  go_loopw [9] (fun u wr => ∃ k : Nat, k ≤ n ∧ u = .int .i64 (k : Int) ∧ Hid (Below w2.heap.size w2 wr ∧ (n = 0 ∨ ∃ g, ad7 = some ⟨g, 0, none⟩ ∧ CI w2 g n (fun j => if j < k then { d j with alsn := 0 } else d j) wr))) (fun u _ => n - (intOf u).toNat)
  case atStart => exact ⟨0, Nat.zero_le _, rfl, hid ⟨HB7.out, by rcases HP7.out with h | ⟨g, e, h⟩; exact .inl h; exact .inr ⟨g, e, h.congr (fun j hj => by rw [if_neg (by omega)])⟩⟩⟩
  case round =>
    clear HP7 HB7
    obtain ⟨k, hk, rfl, HG⟩ := hrel
    by_cases hlt : k < n
    · have hlt2 : (k : Int) < (n : Int) := by omega
      obtain ⟨g, rfl, hci0⟩ := HG.out.2.resolve_left (by omega)
      have hci := hci0.below ((Below.refl _ _).alloc (Nat.le_refl _) (.cells #[] 28 (0, 0)))
      obtain ⟨_, ⟨u2, x2⟩, xf⟩ := hci.cells hlt
      have f2 := xf (k * 5 + 4)
      have HCI : Hid (CI w2 g n (fun j => if j < k + 1 then { d j with alsn := 0 } else d j) ((wr.alloc (.cells #[] 28 (0, 0))).setCell ⟨g, k * 5 + 4, none⟩ (.slice (some ⟨wr.heap.size, 0, none⟩) 0 0))) := hid ((hci.als hlt (some ⟨wr.heap.size, 0, none⟩) 0).congr (fun j hj => by
        by_cases e : j = k
        · subst e; simp
        · simp only [if_neg e]
          by_cases e2 : j < k
          · rw [if_pos e2, if_pos (by omega)]
          · rw [if_neg e2, if_neg (by omega)]))
      clear hci hci0 xf
      go_wp2
      go_roundw
      case rel => exact ⟨k + 1, by omega, by go_num, hid ⟨HCI.out.bel, .inr ⟨g, rfl, HCI.out⟩⟩⟩
      case measure => simp [intOf]; omega
    · obtain rfl : k = n := by omega
      have lkk : ¬ (k : Int) < (k : Int) := by omega
      have HRP : Hid (Below w.heap.size w wr ∧ ITr wr ad7 k (fun j => { d j with alsn := 0 }) ∧ IR wr pa m z) := hid ⟨bel_on HBV.out HG.out.1, by
        rcases HG.out.2 with h | ⟨g, rfl, h⟩
        · exact .inl h
        · exact (h.congr (fun j hj => by rw [if_pos hj])).row, HR2.out.2.below HG.out.1⟩
      clear HG
      obtain ⟨n, rfl⟩ : ∃ x, x = k := ⟨k, rfl⟩
      have HIP : Hid (IZ n (fun j => { d j with alsn := 0 })) := hid (fun j hj => ⟨(HIZ.out j hj).1, (HIZ.out j hj).2.1, by show ((0 : Nat) : Int) ≤ 1048576; omega⟩)
      have HAL : Hid (∀ j, j < n → ((fun j => ({ d j with alsn := 0 } : IT)) j).alsn = 0) := hid (fun j hj => rfl)
      generalize (fun j => ({ d j with alsn := 0 } : IT)) = dp at HRP HIP HAL
      have HCI : Hid (∀ (W : World) (ay : Option Addr) (cy my : Nat) (zz : Nat → Int), (my : Int) ≤ 1048576 → ITr W ad7 n dp → IR W ay my zz → Calls Try.prog 26 #[.slice ad7 n cap7, .slice ay my cy, .int .i64 a, .int .i64 q, .int .i64 y] W fun e w' => e = .returned (.tuple #[.int .i64 (coV n my dp zz a q y), .bool (coB n my dp zz a q y)]) ∧ Below W.heap.size W w') := fun W ay cy my zz hm hr hp => implCost_any ad7 ay n cap7 my cy dp zz a q y W hn1 hm HIP.out hr hp
      have HCS : Hid (∀ (W : World) (ay : Option Addr) (cy my : Nat) (zz : Nat → Int), (my : Int) ≤ 1048576 → ITr W ad7 n dp → IR W ay my zz → Calls Try.prog 27 #[.slice ad7 n cap7, .slice ay my cy, .int .i64 a, .int .i64 q, .int .i64 y] W fun e w' => e = .returned (.tuple #[.int .i64 (coV n my dp zz a q y), .bool (coB n my dp zz a q y)]) ∧ Below W.heap.size W w') := fun W ay cy my zz hm hr hp => specCost_any ad7 ay n cap7 my cy dp zz a q y W hn1 hm HIP.out hr hp
      have HEI : Hid (∀ (W : World), ITr W ad7 n dp → Calls Try.prog 22 #[.slice ad7 n cap7, .int .i64 a, .int .i64 q, .int .i64 y] W fun e w' => ∃ ad cp, e = .returned (.tuple #[.slice ad (rkM eoB n dp a q y) cp, .bool (rkB eoB n dp a q y)]) ∧ OwnI w' W.heap.size ad (rkM eoB n dp a q y) (eoF n dp y a.toNat q) ∧ Below W.heap.size W w') := fun W h => implExplode_any ad7 n cap7 dp a q y W hn1 HIP.out h
      have HES : Hid (∀ (W : World) (k : Nat), ITr W ad7 n dp → Calls Try.prog 23 #[.slice ad7 n cap7, .int .i64 (k : Int), .int .i64 1, .int .i64 y] W fun e w' => ∃ ad cp, e = .returned (.tuple #[.slice ad (rkM eoB n dp (k : Int) 1 y) cp, .bool (rkB eoB n dp (k : Int) 1 y)]) ∧ OwnI w' W.heap.size ad (rkM eoB n dp (k : Int) 1 y) (eoF n dp y ((k : Int)).toNat 1) ∧ Below W.heap.size W w') := fun W k h => specExplode_any ad7 n cap7 dp (k : Int) 1 y W hn1 HIP.out h
      clear HIZ HIP HR2
      have X1 := hid (HCI.out wr pa pc m z hm1 HRP.out.2.1 HRP.out.2.2)
      have X2 : Hid (∀ W, ITr W ad7 n dp → IR W pa m z → _) := hid (fun W h1 h2 => HCS.out W pa pc m z hm1 h1 h2)
      cases hT : coB n m dp z a q y
      · rw [hT] at X1 X2
        generalize coV n m dp z a q y = CV at X1 X2
        clear HCI HCS HEI HES hT
        go_wp2_with (first
          | (go_at_call 26; refine X1.out.mono ?_; rintro e w8 ⟨rfl, b8⟩; have HB8 : Hid (Below w.heap.size w w8 ∧ ITr w8 ad7 n dp ∧ IR w8 pa m z) := hid ⟨bel_on HRP.out.1 b8, HRP.out.2.1.below b8, HRP.out.2.2.below b8⟩; clear b8)
          | (go_at_call 27; refine (X2.out _ HB8.out.2.1 HB8.out.2.2).mono ?_; rintro e w9 ⟨rfl, b9⟩; have HB9 : Hid (Below w.heap.size w w9) := hid (bel_on HB8.out.1 b9); clear b9))
        go_returns
        exact ⟨rfl, HB9.out⟩
      rw [hT] at X1 X2
      obtain ⟨hk1, hmn, hzz, hcv⟩ := co_t hT HAL.out
      subst hmn
      have HAK := hid (eoF_q hk1)
      have HIS : Hid (isB m dp = true) := (akB_p HAK.out.1).1
      have HTWO : Hid (coB m m dp (fun j => 2 * z j) a q y = true → coV m m dp (fun j => 2 * z j) a q y = 2 * coV m m dp z a q y) := hid (fun h => by rw [co_two h HAL.out, hcv])
      have X3 := hid (fun W h => HEI.out W h)
      rw [rk_m hk1, hk1] at X3
      have HZZ := hid hzz
      have hcb := co_bd hT
      clear hT hk1 hzz HEI
      obtain ⟨CV, hCV⟩ : ∃ x, coV m m dp z a q y = x := ⟨_, rfl⟩
      rw [hCV] at X1 X2 HTWO hcv hcb
      have HBQ := hid HAK.out.2
      obtain ⟨E, hE⟩ : ∃ E, eoF m dp y a.toNat q = E := ⟨_, rfl⟩
      rw [hE] at X3 hcv HBQ
      have HCV : Hid (CV = buV dp y z E m) := hcv
      have HCB : Hid (-100000000000 ≤ CV ∧ CV ≤ 100000000000) := hcb
      clear hCV hE hcv hcb HAK
      have hnn : ((m : Int) != (m : Int)) = false := by simp
      have hcc : (CV != CV) = false := by simp
      go_wp2_with (first
        | (go_at_call 26; refine X1.out.mono ?_; rintro e w8 ⟨rfl, b8⟩; have HB8 : Hid (Below w.heap.size w w8 ∧ ITr w8 ad7 m dp ∧ IR w8 pa m z) := hid ⟨bel_on HRP.out.1 b8, HRP.out.2.1.below b8, HRP.out.2.2.below b8⟩; clear b8)
        | (go_at_call 27; refine (X2.out _ HB8.out.2.1 HB8.out.2.2).mono ?_; rintro e w9 ⟨rfl, b9⟩; have HB9 : Hid (Below w.heap.size w w9 ∧ ITr w9 ad7 m dp ∧ IR w9 pa m z) := hid ⟨bel_on HB8.out.1 b9, HB8.out.2.1.below b9, HB8.out.2.2.below b9⟩; clear b9)
        | (go_at_call 22; refine (X3.out _ HB9.out.2.1).mono ?_; rintro e wa ⟨ea, ec, rfl, oa, ba⟩; have HBA : Hid (Below w.heap.size w wa ∧ ITr wa ad7 m dp ∧ IR wa pa m z ∧ IR wa ea m E) := hid ⟨bel_on HB9.out.1 ba, HB9.out.2.1.below ba, HB9.out.2.2.below ba, oa.row⟩; clear ba oa))
      clear X1 X2 X3 HB8 HB9 HRP
      obtain ⟨i3, hi3, hz30, hz31, hz32⟩ := info3i
      go_loopw [16, 17, 18] (fun v t u wr => ∃ k : Nat, k ≤ m ∧ v = .int .i64 (buV dp y z E k) ∧ u = .int .i64 (k : Int) ∧ Hid (Below wa.heap.size wa wr ∧ wr.ownsRow wa.heap.size 3 1 t k (intR (fun j => 2 * z j) k))) (fun _ _ u _ => m - (intOf u).toNat)
      case atStart => exact ⟨0, Nat.zero_le _, rfl, rfl, hid ⟨(Below.refl _ _).alloc (Nat.le_refl _) _, ⟨rfl, .inr ⟨wa.heap.size, 0, #[], rfl, Nat.le_refl _, CB.new _ _, Nat.le_refl _, Nat.zero_le _, rfl, rfl⟩⟩⟩⟩
      case round =>
        obtain ⟨k, hk, rfl, rfl, HG⟩ := hrel
        obtain ⟨wo, rfl⟩ : ∃ x, x = wr := ⟨wr, rfl⟩
        obtain ⟨ta, tc, rfl⟩ := own_form HG.out.2
        by_cases hlt : k < m
        · have hlt2 : (k : Int) < (m : Int) := by omega
          have HRR : Hid (ITr wo ad7 m dp ∧ IR wo pa m z ∧ IR wo ea m E) := hid ⟨HBA.out.2.1.below HG.out.1, HBA.out.2.2.1.below HG.out.1, HBA.out.2.2.2.below HG.out.1⟩
          have XS := hid (HES.out wo k HRR.out.1)
          cases hR : rkB eoB m dp (k : Int) 1 y
          · rw [hR] at XS
            clear hR
            go_wp2_with (go_at_call 23; refine XS.out.mono ?_; rintro e wb ⟨x1, x2, rfl, _, bb⟩; have HBB : Hid (Below w.heap.size w wb) := hid (bel_on (bel_on HBA.out.1 HG.out.1) bb); clear bb)
            go_returns
            exact ⟨rfl, HBB.out⟩
          have h1q := (eoF_q hR).2
          rw [rk_m hR, hR] at XS
          have hone : decide (suF (eoF m dp y k 1) m = 1) = boB dp y k := one_bought HIS.out hlt (by unfold rkB at hR; rw [Bool.and_eq_true] at hR; simpa using hR.2)
          rw [show ((k : Int)).toNat = k by simp] at XS h1q
          have H1Q := hid h1q
          have HBV1 : Hid (buV dp y z E (k + 1) = if boB dp y k = true then buV dp y z E k + E k * z k else buV dp y z E k) := rfl
          rw [← hone] at HBV1
          have bb0 := bu_bd (c := dp) (d := y) HBQ.out HZZ.out k (by omega)
          have e1 := HBQ.out k
          have z1 := HZZ.out k hlt
          have p0 : 0 ≤ E k * z k := Int.mul_nonneg e1.1 z1.1
          have p1 : E k * z k ≤ 1000000 * 100000 := Int.le_trans (Int.mul_le_mul_of_nonneg_right e1.2 z1.1) (Int.mul_le_mul_of_nonneg_left z1.2 (by omega))
          have hw1 : IntKind.i64.wrap (E k * z k) = E k * z k := IntWalk.i64_in _ ⟨by omega, by omega⟩
          have hw2 : IntKind.i64.wrap (buV dp y z E k + E k * z k) = buV dp y z E k + E k * z k := IntWalk.i64_in _ ⟨by omega, by omega⟩
          have hw3 : IntKind.i64.wrap (2 * z k) = 2 * z k := IntWalk.i64_in _ ⟨by omega, by omega⟩
          clear hR h1q hone bb0 e1 z1 p0 p1
          obtain ⟨F1, hF1⟩ : ∃ F, eoF m dp y k 1 = F := ⟨_, rfl⟩
          rw [hF1] at XS H1Q HBV1
          clear hF1
          have HSUM : Hid (∀ (W : World) (ax : Option Addr) (cx : Nat), IR W ax m F1 → Calls Try.prog 28 #[.slice ax m cx] W fun e w' => e = .returned (.int .i64 (suF F1 m)) ∧ w' = W) := hid (fun W ax cx h => lsum_any ax m cx F1 W (by omega) H1Q.out h)
          generalize suF F1 m = S1 at HSUM HBV1
          obtain ⟨eb, eo, rfl, _⟩ := HRR.out.2.2.addr (by omega)
          obtain ⟨pb, po, rfl, _⟩ := HRR.out.2.1.addr (by omega)
          have HZK : Hid (intR (fun j => 2 * z j) (k + 1) = intR (fun j => 2 * z j) k ++ [.int .i64 (2 * z k)]) := rfl
          have FACTS : ∀ wb : World, Below wo.heap.size wo wb → (wb.cell? ⟨eb, eo + k, none⟩ = some (.int .i64 (E k)) ∧ wb.cell? ⟨pb, po + k, none⟩ = some (.int .i64 (z k))) := fun wb b => ⟨(HRR.out.2.2.below b).cell hlt, (HRR.out.2.1.below b).cell hlt⟩
          generalize buV dp y z E k = S0 at *
          generalize hEk : E k = x1 at *
          generalize hZk : z k = x2 at *
          clear hEk hZk
          by_cases h1 : S1 = 1
          · subst h1
            rw [if_pos (by decide)] at HBV1
            go_wp2_with (first
              | (go_at_call 23; refine XS.out.mono ?_; rintro e wb ⟨fa, fc, rfl, ob, bb⟩; have HBB : Hid (Below wa.heap.size wa wb ∧ IR wb fa m F1 ∧ wb.ownsRow wa.heap.size 3 1 (.slice ta k tc) k (intR (fun j => 2 * z j) k)) := hid ⟨bel_on HG.out.1 bb, ob.row, row_below HG.out.2 bb⟩; obtain ⟨s1, s2⟩ := FACTS wb bb; have t1 : wb.drew.cell? ⟨eb, eo + k, none⟩ = some (.int .i64 x1) := s1; have t2 : wb.drew.cell? ⟨pb, po + k, none⟩ = some (.int .i64 x2) := s2; clear bb ob FACTS)
              | (go_at_call 28; refine (HSUM.out _ _ _ HBB.out.2.1).mono ?_; rintro e wc ⟨rfl, ew⟩; replace ew := ew.symm; subst ew))
            go_quiet (fail)
            have HBD : Hid (Below wa.heap.size wa (wb.drewN nq) ∧ True ∧ (wb.drewN nq).ownsRow wa.heap.size 3 1 (.slice ta k tc) k (intR (fun j => 2 * z j) k)) := hid ⟨bd_N HBB.out.1 nq, trivial, HBB.out.2.2⟩
            have s3 : (wb.drewN nq).cell? ⟨pb, po + k, none⟩ = some (.int .i64 x2) := s2
            clear s1 s2 t1 t2
            generalize wb.drewN nq = wd at HBD s3 ⊢
            go_wp2_with (first | (at_builtin; go_loud (refine wpList_append_own_at _ rfl _ _ 24 rfl wa.heap.size 3 i3 (.int .i64 0) 1 8 Try.underlying24 hi3 hz30 hz31 hz32 rfl (by decide) (.slice ta k tc) k (intR (fun j => 2 * z j) k) rfl (row_below HBD.out.2.2 ((Below.refl _ _).alloc (Nat.le_refl _) _)) ⟨wd.heap.size, 0, none⟩ 1 1 [.int .i64 (2 * x2)] rfl rfl (ocells_at rfl) (fun u hu => by simp at hu; subst hu; rfl) (by unfold maxLen; omega) (by omega) (by have := HBD.out.1.size; simp; omega) ?_; intro v9 w9 hown hgrow hnil hat; rw [← HZK.out] at hown; have H9 : Hid (Below wa.heap.size wa w9 ∧ w9.ownsRow wa.heap.size 3 1 v9 (k + 1) (intR (fun j => 2 * z j) (k + 1))) := hid ⟨egrown (HBD.out.1.alloc (by have := HBD.out.1.size; omega) _) (Nat.le_refl _) hgrow (fun g e => (HBD.out.2.2.lt g e).1), hown⟩; clear hown hgrow hnil hat)))
            go_roundw
            case rel => exact ⟨k + 1, by omega, by rw [HBV1.out], by go_num, H9⟩
            case measure => simp [intOf]; omega
          · rw [if_neg (by simpa using h1)] at HBV1
            have h1b : (S1 == 1) = false := by simpa using h1
            go_wp2_with (first
              | (go_at_call 23; refine XS.out.mono ?_; rintro e wb ⟨fa, fc, rfl, ob, bb⟩; have HBB : Hid (Below wa.heap.size wa wb ∧ IR wb fa m F1 ∧ wb.ownsRow wa.heap.size 3 1 (.slice ta k tc) k (intR (fun j => 2 * z j) k)) := hid ⟨bel_on HG.out.1 bb, ob.row, row_below HG.out.2 bb⟩; obtain ⟨s1, s2⟩ := FACTS wb bb; clear bb ob FACTS)
              | (go_at_call 28; refine (HSUM.out _ _ _ HBB.out.2.1).mono ?_; rintro e wc ⟨rfl, ew⟩; replace ew := ew.symm; subst ew)
              | (at_builtin; go_loud (refine wpList_append_own_at _ rfl _ _ 24 rfl wa.heap.size 3 i3 (.int .i64 0) 1 8 Try.underlying24 hi3 hz30 hz31 hz32 rfl (by decide) (.slice ta k tc) k (intR (fun j => 2 * z j) k) rfl (row_below HBB.out.2.2 ((Below.refl _ _).alloc (Nat.le_refl _) _)) ⟨wb.heap.size, 0, none⟩ 1 1 [.int .i64 (2 * x2)] rfl rfl (ocells_at rfl) (fun u hu => by simp at hu; subst hu; rfl) (by unfold maxLen; omega) (by omega) (by have := HBB.out.1.size; simp; omega) ?_; intro v9 w9 hown hgrow hnil hat; rw [← HZK.out] at hown; have H9 : Hid (Below wa.heap.size wa w9 ∧ w9.ownsRow wa.heap.size 3 1 v9 (k + 1) (intR (fun j => 2 * z j) (k + 1))) := hid ⟨egrown (HBB.out.1.alloc (by have := HBB.out.1.size; omega) _) (Nat.le_refl _) hgrow (fun g e => (HBB.out.2.2.lt g e).1), hown⟩; clear hown hgrow hnil hat)))
            go_roundw
            case rel => exact ⟨k + 1, by omega, by rw [HBV1.out], by go_num, H9⟩
            case measure => simp [intOf]; omega
        · obtain rfl : k = m := by omega
          have lkk : ¬ (k : Int) < (k : Int) := by omega
          have HRR : Hid (ITr wo ad7 k dp ∧ IR wo ta k (fun j => 2 * z j)) := hid ⟨HBA.out.2.1.below HG.out.1, row_IR HG.out.2 (fun j hj => intR_get _ k j hj)⟩
          have HBW : Hid (Below w.heap.size w wo) := hid (bel_on HBA.out.1 HG.out.1)
          have Y1 := hid (HCI.out wo ta tc k (fun j => 2 * z j) hn1 HRR.out.1 HRR.out.2)
          have Y2 : Hid (∀ W, ITr W ad7 k dp → IR W ta k (fun j => 2 * z j) → _) := hid (fun W h1 h2 => HCS.out W ta tc k (fun j => 2 * z j) hn1 h1 h2)
          rw [← HCV.out]
          have HF := hid HTWO.out
          clear HCI HCS HES HG HTWO HBA HCV
          have hbc : -100000000000 ≤ CV ∧ CV ≤ 100000000000 := HCB.out
          have hw5 : IntKind.i64.wrap (2 * CV) = 2 * CV := IntWalk.i64_in _ ⟨by omega, by omega⟩
          generalize coV k k dp (fun j => 2 * z j) a q y = C2 at Y1 Y2 HF
          cases hT2 : coB k k dp (fun j => 2 * z j) a q y
          · rw [hT2] at Y1 Y2
            clear hT2 HF
            go_wp2_with (first
              | (go_at_call 26; refine Y1.out.mono ?_; rintro e wb ⟨rfl, bb⟩; have HBB : Hid (Below w.heap.size w wb ∧ ITr wb ad7 k dp ∧ IR wb ta k (fun j => 2 * z j)) := hid ⟨bel_on HBW.out bb, HRR.out.1.below bb, HRR.out.2.below bb⟩; clear bb)
              | (go_at_call 27; refine (Y2.out _ HBB.out.2.1 HBB.out.2.2).mono ?_; rintro e wc ⟨rfl, bc⟩; have HBC : Hid (Below w.heap.size w wc) := hid (bel_on HBB.out.1 bc); clear bc))
            go_returns
            exact ⟨rfl, HBC.out⟩
          · rw [hT2] at Y1 Y2
            have h2 := HF.out hT2
            subst h2
            clear hT2 HF
            go_wp2_with (first
              | (go_at_call 26; refine Y1.out.mono ?_; rintro e wb ⟨rfl, bb⟩; have HBB : Hid (Below w.heap.size w wb ∧ ITr wb ad7 k dp ∧ IR wb ta k (fun j => 2 * z j)) := hid ⟨bel_on HBW.out bb, HRR.out.1.below bb, HRR.out.2.below bb⟩; clear bb)
              | (go_at_call 27; refine (Y2.out _ HBB.out.2.1 HBB.out.2.2).mono ?_; rintro e wc ⟨rfl, bc⟩; have HBC : Hid (Below w.heap.size w wc) := hid (bel_on HBB.out.1 bc); clear bc))
            go_returns
            exact ⟨by first | rfl | simp, HBC.out⟩

set_option maxRecDepth 100000 in
theorem lifted (os : Os) (started : os.Started) (H : Type) (enc : TypeId × Value → H) :
    ReturnsInHanded {} Try.checked os 5 .any (Rows.fnCostedSpec.pre6 enc Try.prog Try.f5 Rows.fnCostedRow.domain false) (Rows.fnCostedSpec.post enc Try.prog Try.f5 false true false false) := by
  refine returnsInHanded_of_change (C := Try.checked) own started (by kernel_rfl) Try.func5
    (ChangeSpec.witness6 (enc := enc) (C := Try.checked) false ⟨#[], #[.slice none 0 0], []⟩ 8 (by kernel_rfl) (by kernel_rfl) (by kernel_rfl) (by kernel_rfl)) ?_
  intro W base args ds gs before hval0 hW hcnd _
  have hval : ∀ (j : Nat) t v, Try.f5.params[j]? = some t → args[j]? = some v → Value.okWide Try.prog W .any base t v := hval0
  have hW' := hW
  obtain ⟨p, q, hA0, hV, rfl, hfz, hnd⟩ := hW
  have hA : DataW.TrodAll enc Try.prog W 0 (fun _ => true) true Try.f5.params.toList args.toList ds p := hA0
  rw [Try.params5] at hA hval
  obtain ⟨v0, vs0, d0, ds0, p0, q0, hargs, rfl, rfl, h0, r0⟩ := trodAll_cons hA
  obtain ⟨rfl, rfl, rfl⟩ := trodAll_nil r0
  obtain rfl : args = #[v0] := by cases args; simp_all
  obtain ⟨rfl, rfl⟩ := trodVars_none hV
  have k0 := h0
  have lt0 : ∀ x ∈ p0, x.block < W.heap.size := by obtain ⟨m, hm⟩ := k0; exact DataW.trod_lt m _ _ _ hm
  obtain ⟨a0, len0, cap0, rfl⟩ := okWide_slice Try.underlying22 (hval 0 22 v0 rfl rfl)
  obtain ⟨z0, w0⟩ : ∃ zs, IsRow .u8 W a0 len0 cap0 zs := by
    obtain ⟨fuel, hf⟩ := h0
    rcases open_ints Try.underlying22 Try.underlying5 (by kernel_rfl) hf with ⟨hcs, _⟩ | ⟨x, l, c, zs, hcs, _, hl, hm, hz, _, hcell, hwz⟩
    · simp [Value.cells] at hcs
      obtain ⟨rfl, rfl, rfl⟩ := hcs
      exact ⟨[], .inl ⟨rfl, rfl, rfl, rfl⟩⟩
    · simp [Value.cells] at hcs
      obtain ⟨rfl, rfl, rfl⟩ := hcs
      exact ⟨zs, .inr ⟨_, rfl, hl, hm, by simpa using hz, hcell, hwz⟩⟩
  clear hA0 hval0
  refine (walk a0 len0 cap0 z0 W w0).mono fun e W' ⟨he, hg⟩ => ?_
  subst he
  exact ⟨_, rfl, _, _, _, [], _, [], hW', (trodAll_cons_mk (shut_bool Try.underlying4 _) trodAll_mk0), (trodAll_cons_mk (Below.trod laidOut (by kernel_rfl) (of_decide_eq_true (by kernel_rfl)) k0 hg lt0) trodAll_mk0), rfl, hg.frame _, fun h => by cases h⟩

theorem over : Rows.fnCostedRow.holds Try.pinned (OpenSpec.ofChange Rows.fnCostedSpec) :=
  OpenClaim.holds_of_wide 5 Try.f5 rfl rfl rfl rfl rfl rfl rfl ⟨rfl, rfl, rfl, rfl, rfl⟩ rfl rfl rfl rfl rfl (by kernel_rfl) Try.func5 (by kernel_rfl)
    (of_decide_eq_true (by kernel_rfl)) (by unfold Func.isWrapper; first | (rw [if_pos (by decide +kernel)]; kernel_rfl) | (rw [if_neg (by decide +kernel)]; exact ⟨rfl, rfl⟩))
    (fun os started H enc _ => lifted os started H enc)

end Go.Proofs.Ytmbdeafpfdeigaa.fnCosted

namespace Go.Proofs.Ytmbdeafpfdeigaa
theorem fnCosted_holds : Rows.FnCostedSaid := fnCosted.over
#print axioms fnCosted_holds
end Go.Proofs.Ytmbdeafpfdeigaa
