/- Of drawn items needs are no more than what there must be of each, and without phantoms what there must be is what was asked for and the needs of all that there must be; no condition but what can be drawn. -/
import Derived.Test.YtmbdeafpfdeigaaRows
import Derived.WalkKit
import Derived.ProofKit
import Derived.OpenShut
import Derived.ShutString
import Derived.ChangeOld
import Derived.Below
import Derived.Handy
import Derived.Carry
import Derived.Lib.SmallJoins
import Derived.Deep.SlicePairs
import Derived.Test.YtmbdeafpfdeigaaJ3
import Derived.Test.YtmbdeafpfdeigaaJ5
import Derived.Test.YtmbdeafpfdeigaaPlM
namespace Go.Proofs.Ytmbdeafpfdeigaa.fnExploded
open Go.ChangeShapes Go.WideShapes Go.ChangeAt Go.RowKit
set_option linter.unusedVariables false
set_option linter.unusedSimpArgs false

theorem own : ownKnob Try.prog.godebug = none := by kernel_rfl
theorem laidOut : laidOutB Try.prog = true := by kernel_rfl

set_option maxRecDepth 20000 in
set_option maxHeartbeats 4000000 in
theorem walk (a0 : Option Addr) (len0 cap0 : Nat) (z0 : List Int) (w : World) (w0 : IsRow .u8 w a0 len0 cap0 z0) :
    Calls Try.prog 4 #[.slice a0 len0 cap0] w fun e w' => e = .returned (.bool true) ∧ Below w.heap.size w w' := by
  by_cases hbig : (1048576 : Int) < (len0 : Int)
  · go_enter Try.func4, Try.ntmps4
    go_wp2_with (go_at_call 16; refine (big_t _ _ _ _ hbig).mono ?_; rintro e w1 ⟨rfl, ew⟩; replace ew := ew.symm; subst ew)
    go_returns
    exact ⟨rfl, Below.refl _ _⟩
  have hb2 : (len0 : Int) ≤ 1048576 := by omega
  have HRW : Hid (ByteRow w w.heap.size a0 len0) := row_of w0
  clear w0 z0
  go_enter Try.func4, Try.ntmps4
  go_wp2_with (first
    | (go_at_call 16; refine (big_f _ _ _ _ hb2).mono ?_; rintro e wq ⟨rfl, ew⟩; replace ew := ew.symm; subst ew)
    | (go_at_call 21; refine (drawExplode_any a0 len0 cap0 _ hb2 HRW.out).mono ?_; rintro e w2 ⟨ia0, n, ic, d, a, q, y, rfl, hn60, hr2, hd2, hq2, b2, hsa⟩; obtain ⟨ia, rfl⟩ := hsa; have HB2 : Hid (Below w.heap.size w w2) := b2; have HR2 : Hid (ITr w2 (some ia) n d) := hr2; have HIZ : Hid (IZ n d) := hid (fun j hj => ⟨by have := (hd2 j hj).1; unfold maxLen; omega, by have := (hd2 j hj).2.1; omega, by have := (hd2 j hj).2.2; omega⟩); have hn1 : (n : Int) ≤ 1048576 := (by omega); clear hr2 hd2 b2))
  clear HRW
  have KEI : Hid (∀ (W : World) (ax : Option Addr) (cx : Nat) (x0 x : Int), ITr W ax n d → Calls Try.prog 22 #[.slice ax n cx, .int .i64 x0, .int .i64 x, .int .i64 y] W fun e w' => ∃ ad cp, e = .returned (.tuple #[.slice ad (rkM eoB n d x0 x y) cp, .bool (rkB eoB n d x0 x y)]) ∧ OwnI w' W.heap.size ad (rkM eoB n d x0 x y) (eoF n d y x0.toNat x) ∧ Below W.heap.size W w') := fun W ax cx x0 x h => implExplode_any ax n cx d x0 x y W hn1 HIZ.out h
  have KES : Hid (∀ (W : World) (ax : Option Addr) (cx : Nat) (x0 x : Int), ITr W ax n d → Calls Try.prog 23 #[.slice ax n cx, .int .i64 x0, .int .i64 x, .int .i64 y] W fun e w' => ∃ ad cp, e = .returned (.tuple #[.slice ad (rkM eoB n d x0 x y) cp, .bool (rkB eoB n d x0 x y)]) ∧ OwnI w' W.heap.size ad (rkM eoB n d x0 x y) (eoF n d y x0.toNat x) ∧ Below W.heap.size W w') := fun W ax cx x0 x h => specExplode_any ax n cx d x0 x y W hn1 HIZ.out h
  have KNI : Hid (∀ (W : World) (ax : Option Addr) (cx : Nat) (x0 x : Int), ITr W ax n d → Calls Try.prog 17 #[.slice ax n cx, .int .i64 x0, .int .i64 x, .int .i64 y] W fun e w' => ∃ ad cp, e = .returned (.tuple #[.slice ad (rkM neB n d x0 x y) cp, .bool (rkB neB n d x0 x y)]) ∧ OwnI w' W.heap.size ad (rkM neB n d x0 x y) (neF n d y x0.toNat x) ∧ Below W.heap.size W w') := fun W ax cx x0 x h => implNeeds_any ax n cx d x0 x y W hn1 HIZ.out h
  have KNS : Hid (∀ (W : World) (ax : Option Addr) (cx : Nat) (x0 x : Int), ITr W ax n d → Calls Try.prog 19 #[.slice ax n cx, .int .i64 x0, .int .i64 x, .int .i64 y] W fun e w' => ∃ ad cp, e = .returned (.tuple #[.slice ad (rkM neB n d x0 x y) cp, .bool (rkB neB n d x0 x y)]) ∧ OwnI w' W.heap.size ad (rkM neB n d x0 x y) (neF n d y x0.toNat x) ∧ Below W.heap.size W w') := fun W ax cx x0 x h => specNeeds_any ax n cx d x0 x y W hn1 HIZ.out h
  have XA := hid (KEI.out w2 (some ia) ic a q HR2.out)
  have XB : Hid (∀ W, ITr W (some ia) n d → _) := hid (fun W h => KES.out W (some ia) ic a q h)
  have XC : Hid (∀ W, ITr W (some ia) n d → _) := hid (fun W h => KNS.out W (some ia) ic a q h)
  have XD : Hid (∀ W, ITr W (some ia) n d → _) := hid (fun W h => KNI.out W (some ia) ic a q h)
  clear KEI KES KNI KNS
  cases hE : rkB eoB n d a q y
  · rw [hE] at XA XB
    clear XD
    generalize rkB neB n d a q y = TN at XC
    generalize rkM neB n d a q y = MN at XC
    clear hE
    go_wp2_with (first
      | (go_at_call 22; refine XA.out.mono ?_; rintro e w3 ⟨ra, rc, rfl, _, b3⟩; have HB3 : Hid (Below w.heap.size w w3 ∧ ITr w3 (some ia) n d) := hid ⟨bel_on HB2.out b3, HR2.out.below b3⟩; clear b3)
      | (go_at_call 23; refine (XB.out _ HB3.out.2).mono ?_; rintro e w4 ⟨x1, x2, rfl, _, b4⟩; have HB4 : Hid (Below w.heap.size w w4 ∧ ITr w4 (some ia) n d) := hid ⟨bel_on HB3.out.1 b4, HB3.out.2.below b4⟩; clear b4)
      | (go_at_call 19; refine (XC.out _ HB4.out.2).mono ?_; rintro e w5 ⟨x3, x4, rfl, _, b5⟩; have HB5 : Hid (Below w.heap.size w w5 ∧ ITr w5 (some ia) n d) := hid ⟨bel_on HB4.out.1 b5, HB4.out.2.below b5⟩; clear b5; have HBV : Hid (Below w.heap.size w w5) := HB5.out.1; have HRV : Hid (ITr w5 (some ia) n d) := HB5.out.2; obtain ⟨vs, v1, v2, v3, v4⟩ := it_vals HRV.out; have HVL : Hid (vs.length = n * 5) := v1; have HV1 : Hid (∀ v ∈ vs, v.oneCell' = true) := v2; have HVS : Hid (∀ j u, vs[j]? = some u → (w5.alloc (.cells #[] 31 (0, 0))).cell? (ia.add j) = some u) := hid (v3 _ ((Below.refl _ _).alloc (Nat.le_refl _) _)); have HV4 := hid v4; clear v1 v2 v3 v4; obtain ⟨i0, hi, hz0, hz1, hz2⟩ := infoIT)
      | (at_builtin; go_loud (refine wpList_append_own_at _ rfl _ _ 32 rfl w5.heap.size 31 i0 (.agg #[.string ByteArray.empty, .int .i64 0, .bool false, .slice none 0 0, .slice none 0 0]) 5 80 Try.underlying32 hi hz0 hz1 hz2 rfl (by decide) (.slice (some ⟨w5.heap.size, 0, none⟩) 0 0) 0 [] rfl (madeIT (CB.new _ _) (Nat.le_refl _)) ia n ic vs rfl HVL.out HVS.out HV1.out (by unfold maxLen; omega) (by omega) (by simp) ?_; intro v7 w7 hown hgrow _ _; rw [Nat.zero_add, List.nil_append] at hown; have HPL : Hid (PL w5 v7 n d w7) := hid (PL.of (below_app hgrow) hown HV4.out); clear hown hgrow)))
    clear XA XB XC HB3 HB4
    clear hi hz0 hz1 hz2 HVL HV1 HVS HV4
    obtain ⟨ad7, cap7, hv7, _⟩ := HPL.out.2
    have HP7 : Hid (n = 0 ∨ ∃ g, ad7 = some ⟨g, 0, none⟩ ∧ CI w5 g n d w7) := hid (by
      obtain ⟨_, ad8, cap8, e8, h8⟩ := HPL.out
      rw [hv7] at e8
      simp only [Value.slice.injEq] at e8
      obtain ⟨rfl, _⟩ := e8
      exact h8)
    have HB7 : Hid (Below w5.heap.size w5 w7) := HPL.out.1
    subst hv7
    clear HPL
    go_loopw [17] (fun u wr => ∃ k : Nat, k ≤ n ∧ u = .int .i64 (k : Int) ∧ Hid (Below w5.heap.size w5 wr ∧ (n = 0 ∨ ∃ g, ad7 = some ⟨g, 0, none⟩ ∧ CI w5 g n (fun j => if j < k then { d j with pha := false } else d j) wr))) (fun u _ => n - (intOf u).toNat)
    case atStart => exact ⟨0, Nat.zero_le _, rfl, hid ⟨HB7.out, by rcases HP7.out with h | ⟨g, e, h⟩; exact .inl h; exact .inr ⟨g, e, h.congr (fun j hj => by rw [if_neg (by omega)])⟩⟩⟩
    case round =>
      clear HP7 HB7
      obtain ⟨k, hk, rfl, HG⟩ := hrel
      by_cases hlt : k < n
      · have hlt2 : (k : Int) < (n : Int) := by omega
        obtain ⟨g, rfl, hci⟩ := HG.out.2.resolve_left (by omega)
        obtain ⟨⟨u2, x2⟩, _, xf⟩ := hci.cells hlt
        have f2 := xf (k * 5 + 2)
        have HCI : Hid (CI w5 g n (fun j => if j < k + 1 then { d j with pha := false } else d j) (wr.setCell ⟨g, k * 5 + 2, none⟩ (.bool false))) := hid ((hci.pha hlt false).congr (fun j hj => by
          by_cases e : j = k
          · subst e; simp
          · simp only [if_neg e]
            by_cases e2 : j < k
            · rw [if_pos e2, if_pos (by omega)]
            · rw [if_neg e2, if_neg (by omega)]))
        clear hci xf
        go_wp2
        go_roundw
        case rel => exact ⟨k + 1, by omega, by go_num, hid ⟨HCI.out.bel, .inr ⟨g, rfl, HCI.out⟩⟩⟩
        case measure => simp [intOf]; omega
      · obtain rfl : k = n := by omega
        have lkk : ¬ (k : Int) < (k : Int) := by omega
        have HRP : Hid (Below w.heap.size w wr ∧ ITr wr ad7 k (fun j => { d j with pha := false })) := hid ⟨bel_on HBV.out HG.out.1, by
          rcases HG.out.2 with h | ⟨g, rfl, h⟩
          · exact .inl h
          · exact (h.congr (fun j hj => by rw [if_pos hj])).row⟩
        clear HG
        obtain ⟨n, rfl⟩ : ∃ x, x = k := ⟨k, rfl⟩
        have HIP : Hid (IZ n (fun j => { d j with pha := false })) := hid (fun j hj => HIZ.out j hj)
        have HPH : Hid (∀ j, j < n → ((fun j => ({ d j with pha := false } : IT)) j).pha = false) := hid (fun j hj => rfl)
        generalize (fun j => ({ d j with pha := false } : IT)) = dp at HRP HIP HPH
        have HEI : Hid (∀ (W : World) (ax : Option Addr) (cx : Nat) (x0 x : Int), ITr W ax n dp → Calls Try.prog 22 #[.slice ax n cx, .int .i64 x0, .int .i64 x, .int .i64 y] W fun e w' => ∃ ad cp, e = .returned (.tuple #[.slice ad (rkM eoB n dp x0 x y) cp, .bool (rkB eoB n dp x0 x y)]) ∧ OwnI w' W.heap.size ad (rkM eoB n dp x0 x y) (eoF n dp y x0.toNat x) ∧ Below W.heap.size W w') := fun W ax cx x0 x h => implExplode_any ax n cx dp x0 x y W hn1 HIP.out h
        have HES : Hid (∀ (W : World) (ax : Option Addr) (cx : Nat) (x0 x : Int), ITr W ax n dp → Calls Try.prog 23 #[.slice ax n cx, .int .i64 x0, .int .i64 x, .int .i64 y] W fun e w' => ∃ ad cp, e = .returned (.tuple #[.slice ad (rkM eoB n dp x0 x y) cp, .bool (rkB eoB n dp x0 x y)]) ∧ OwnI w' W.heap.size ad (rkM eoB n dp x0 x y) (eoF n dp y x0.toNat x) ∧ Below W.heap.size W w') := fun W ax cx x0 x h => specExplode_any ax n cx dp x0 x y W hn1 HIP.out h
        have HNI : Hid (∀ (W : World) (ax : Option Addr) (cx : Nat) (x0 x : Int), ITr W ax n dp → Calls Try.prog 17 #[.slice ax n cx, .int .i64 x0, .int .i64 x, .int .i64 y] W fun e w' => ∃ ad cp, e = .returned (.tuple #[.slice ad (rkM neB n dp x0 x y) cp, .bool (rkB neB n dp x0 x y)]) ∧ OwnI w' W.heap.size ad (rkM neB n dp x0 x y) (neF n dp y x0.toNat x) ∧ Below W.heap.size W w') := fun W ax cx x0 x h => implNeeds_any ax n cx dp x0 x y W hn1 HIP.out h
        have HNS : Hid (∀ (W : World) (ax : Option Addr) (cx : Nat) (x0 x : Int), ITr W ax n dp → Calls Try.prog 19 #[.slice ax n cx, .int .i64 x0, .int .i64 x, .int .i64 y] W fun e w' => ∃ ad cp, e = .returned (.tuple #[.slice ad (rkM neB n dp x0 x y) cp, .bool (rkB neB n dp x0 x y)]) ∧ OwnI w' W.heap.size ad (rkM neB n dp x0 x y) (neF n dp y x0.toNat x) ∧ Below W.heap.size W w') := fun W ax cx x0 x h => specNeeds_any ax n cx dp x0 x y W hn1 HIP.out h
        clear HIZ HIP
        cases hE2 : rkB eoB n dp a q y
        · have X1 := hid (HEI.out wr ad7 cap7 a q HRP.out.2)
          rw [hE2] at X1
          have X2 : Hid (∀ W, ITr W ad7 n dp → _) := hid (fun W h => HES.out W ad7 cap7 a q h)
          rw [hE2] at X2
          clear HEI HES HNI HNS hE2
          go_wp2_with (first
            | (go_at_call 22; refine X1.out.mono ?_; rintro e w8 ⟨x1, x2, rfl, _, b8⟩; have HB8 : Hid (Below w.heap.size w w8 ∧ ITr w8 ad7 n dp) := hid ⟨bel_on HRP.out.1 b8, HRP.out.2.below b8⟩; clear b8)
            | (go_at_call 23; refine (X2.out _ HB8.out.2).mono ?_; rintro e w9 ⟨x3, x4, rfl, _, b9⟩; have HB9 : Hid (Below w.heap.size w w9) := hid (bel_on HB8.out.1 b9); clear b9))
          go_returns
          exact ⟨rfl, HB9.out⟩
        have HAK := hid (eoF_q hE2)
        have hqq := rk_qty hE2
        obtain ⟨i, hia⟩ : ∃ i : Nat, a = (i : Int) := ⟨a.toNat, by have := (akB_p HAK.out.1).2.1; omega⟩
        subst hia
        have hin : i < n := by have := (akB_p HAK.out.1).2.1; omega
        have hin2 : (i : Int) < (n : Int) := by omega
        have HIS : Hid (isB n dp = true ∧ 0 ≤ y ∧ y ≤ 40000) := hid ⟨(akB_p HAK.out.1).1, (akB_p HAK.out.1).2.2.2⟩
        have HEQ : Hid (FQ (eoF n dp y i q)) := hid (by have := HAK.out.2; simpa using this)
        have HSU : Hid (∀ j, eoF n dp y i q j = upI z0 i q j + tkS dp y (eoF n dp y i q) j n) := hid (fun j => eo_sum HIS.out.1 hin j)
        have X1 := hid (HEI.out wr ad7 cap7 (i : Int) q HRP.out.2)
        rw [rk_m hE2, hE2, show ((i : Int)).toNat = i by simp] at X1
        have X2 : Hid (∀ W, ITr W ad7 n dp → _) := hid (fun W h => HES.out W ad7 cap7 (i : Int) q h)
        rw [rk_m hE2, hE2] at X2
        clear HEI HES hE2 HAK
        obtain ⟨E, hE⟩ : ∃ E, eoF n dp y i q = E := ⟨_, rfl⟩
        rw [hE] at X1 HEQ HSU
        clear hE
        have hmk := mkI n hn1
        have hnn : ((n : Int) != (n : Int)) = false := by simp
        go_wp2_with (first
          | (go_at_call 22; refine X1.out.mono ?_; rintro e w8 ⟨ea, ec, rfl, o8, b8⟩; have HB8 : Hid (Below w.heap.size w w8 ∧ ITr w8 ad7 n dp ∧ IR w8 ea n E) := hid ⟨bel_on HRP.out.1 b8, HRP.out.2.below b8, o8.row⟩; clear b8 o8)
          | (go_at_call 23; refine (X2.out _ HB8.out.2.1).mono ?_; rintro e w9 ⟨x3, x4, rfl, _, b9⟩; have HB9 : Hid (Below w.heap.size w w9 ∧ ITr w9 ad7 n dp ∧ IR w9 ea n E) := hid ⟨bel_on HB8.out.1 b9, HB8.out.2.1.below b9, HB8.out.2.2.below b9⟩; have HTI := hid (TI.made w9 n); have s1 := HTI.out.cell hin; have s2 := HTI.out.fr i; have HT0 : Hid (TI (w9.alloc (.cells ((zeros n).setIfInBounds i (.int .i64 q)) 3)) w9.heap.size n (fun j => upI z0 i q j + tkS dp y E j 0) ∧ Below w9.heap.size w9 (w9.alloc (.cells ((zeros n).setIfInBounds i (.int .i64 q)) 3))) := hid ⟨(TI.made1 w9 hin q).congr (fun j hj => by show (if j = i then q else 0) = (if j = i then q else 0) + 0; omega), (Below.refl _ _).alloc (Nat.le_refl _) _⟩; clear b9))
        clear X1 X2 HB8 HTI s1 s2 hmk
        obtain ⟨tb, htb⟩ : ∃ t, w9.heap.size = t := ⟨_, rfl⟩
        have HTB : Hid (w9.heap.size = tb) := htb
        have HW9 : Hid (Below w.heap.size w w9 ∧ ITr w9 ad7 n dp ∧ IR w9 ea n E) := HB9
        clear HB9 HRP
        rw [htb] at HT0 ⊢
        clear htb
        go_loopw [19] (fun u wr => ∃ k : Nat, k ≤ n ∧ u = .int .i64 (k : Int) ∧ Hid (TI wr tb n (fun j => upI z0 i q j + tkS dp y E j k) ∧ Below w9.heap.size w9 wr ∧ ∀ j, 0 ≤ upI z0 i q j + tkS dp y E j k ∧ upI z0 i q j + tkS dp y E j k ≤ 1000000 * ((k : Int) + 1))) (fun u _ => n - (intOf u).toNat)
        case atStart => exact ⟨0, Nat.zero_le _, rfl, hid ⟨HT0.out.1, by rw [HTB.out]; exact HT0.out.2, fun j => by
          have : 0 ≤ upI z0 i q j ∧ upI z0 i q j ≤ 1000000 := z0_q.up i hqq.1 hqq.2 j
          show 0 ≤ upI z0 i q j + 0 ∧ upI z0 i q j + 0 ≤ _
          omega⟩⟩
        case round =>
          clear HT0
          obtain ⟨k, hk, rfl, HG⟩ := hrel
          obtain ⟨wo, rfl⟩ : ∃ x, x = wr := ⟨wr, rfl⟩
          by_cases hlt : k < n
          · have hlt2 : (k : Int) < (n : Int) := by omega
            have HER : Hid (IR wo ea n E ∧ ITr wo ad7 n dp) := hid ⟨HW9.out.2.2.below HG.out.2.1, HW9.out.2.1.below HG.out.2.1⟩
            obtain ⟨eb, eo, rfl, _⟩ := HER.out.1.addr (by omega)
            have s1 := HER.out.1.cell hlt
            have XS := hid (HNS.out wo ad7 cap7 (k : Int) (E k) HER.out.2)
            have XI : Hid (∀ W, ITr W ad7 n dp → _) := hid (fun W h => HNI.out W ad7 cap7 (k : Int) (E k) h)
            cases hN : rkB neB n dp (k : Int) (E k) y
            · rw [hN] at XS
              clear XI hN
              generalize E k = x at *
              go_wp2_with (go_at_call 19; refine XS.out.mono ?_; rintro e wa ⟨x1, x2, rfl, _, ba⟩; have HBA : Hid (Below w.heap.size w wa) := hid (bel_on (bel_on HW9.out.1 HG.out.2.1) ba); clear ba)
              go_returns
              exact ⟨rfl, HBA.out⟩
            have HFQ : Hid (FQ (xpF dp y z0 k (E k))) := hid (by
              have := ne_q hN
              rw [show ((k : Int)).toNat = k by simp, (ne_plain HPH.out).1] at this; exact this)
            rw [rk_m hN, hN] at XS XI
            rw [show ((k : Int)).toNat = k by simp, (ne_plain HPH.out).1] at XI
            clear hN
            have HTK : Hid (∀ j, tkS dp y E j (k + 1) = tkS dp y E j k + xpF dp y z0 k (E k) j) := hid (fun j => rfl)
            obtain ⟨F, hF⟩ : ∃ F, xpF dp y z0 k (E k) = F := ⟨_, rfl⟩
            rw [hF] at HFQ XI HTK
            clear hF
            generalize hx : E k = x at s1 XS XI
            clear hx
            go_wp2_with (first
              | (go_at_call 19; refine XS.out.mono ?_; rintro e wa ⟨x1, x2, rfl, _, ba⟩; have HBA : Hid (Below w9.heap.size w9 wa ∧ TI wa tb n (fun j => upI z0 i q j + tkS dp y E j k) ∧ ITr wa ad7 n dp) := hid ⟨bel_on HG.out.2.1 ba, HG.out.1.below ba, HER.out.2.below ba⟩; have s2 : wa.cell? ⟨eb, eo + k, none⟩ = some (.int .i64 x) := keep_cell ba s1; clear ba s1)
              | (go_at_call 17; refine (XI.out _ HBA.out.2.2).mono ?_; rintro e wb ⟨fa, fc, rfl, ob, bb⟩; have HBB : Hid (Below w9.heap.size w9 wb ∧ TI wb tb n (fun j => upI z0 i q j + tkS dp y E j k) ∧ IR wb fa n F) := hid ⟨bel_on HBA.out.1 bb, HBA.out.2.1.below bb, ob.row⟩; have HFB : Hid (∀ g o, fa = some ⟨g, o, none⟩ → n ≠ 0 → g ≠ tb) := hid (fun g o e h0 => by rcases ob with h | ⟨g', cs, e1, e2, _⟩; exact absurd h h0; rw [e1] at e; cases e; have := HBA.out.2.1.lt; omega); clear bb ob s2))
            clear XS XI HBA HER
            go_loopw [22] (fun u wr => ∃ p : Nat, p ≤ n ∧ u = .int .i64 (p : Int) ∧ Hid (Below w9.heap.size w9 wr ∧ TI wr tb n (fun j => if j < p then upI z0 i q j + tkS dp y E j k + F j else upI z0 i q j + tkS dp y E j k) ∧ IR wr fa n F)) (fun u _ => n - (intOf u).toNat)
            case atStart => exact ⟨0, Nat.zero_le _, rfl, hid ⟨HBB.out.1, HBB.out.2.1.congr (fun j hj => by rw [if_neg (by omega)]), HBB.out.2.2⟩⟩
            case round =>
              clear HBB
              obtain ⟨p, hp, rfl, HH⟩ := hrel
              obtain ⟨wi, rfl⟩ : ∃ x, x = wr := ⟨wr, rfl⟩
              by_cases hpt : p < n
              · have hpt2 : (p : Int) < (n : Int) := by omega
                obtain ⟨fb, fo, rfl, hfb⟩ := HH.out.2.2.addr (by omega)
                have hne : fb ≠ tb := HFB.out _ _ rfl (by omega)
                have c1 : wi.cell? ⟨tb, p, none⟩ = some (.int .i64 (upI z0 i q p + tkS dp y E p k)) := (HH.out.2.1.cell hpt).trans (by rw [if_neg (by omega)])
                have c2 : wi.cell? ⟨fb, fo + p, none⟩ = some (.int .i64 (F p)) := HH.out.2.2.cell hpt
                have c3 := HH.out.2.1.fr p
                have d1 : wi.drew.cell? ⟨tb, p, none⟩ = some (.int .i64 (upI z0 i q p + tkS dp y E p k)) := c1
                have d2 : wi.drew.cell? ⟨fb, fo + p, none⟩ = some (.int .i64 (F p)) := c2
                have d3 : wi.drew.frozen? ⟨tb, p, none⟩ = false := c3
                have g1 := HG.out.2.2 p
                have g2 := HFQ.out p
                have hw1 : IntKind.i64.wrap (upI z0 i q p + tkS dp y E p k + F p) = upI z0 i q p + tkS dp y E p k + F p := IntWalk.i64_in _ ⟨by omega, by omega⟩
                have HN : Hid (Below w9.heap.size w9 (wi.drew.setCell ⟨tb, p, none⟩ (.int .i64 (upI z0 i q p + tkS dp y E p k + F p))) ∧ TI (wi.drew.setCell ⟨tb, p, none⟩ (.int .i64 (upI z0 i q p + tkS dp y E p k + F p))) tb n (fun j => if j < p + 1 then upI z0 i q j + tkS dp y E j k + F j else upI z0 i q j + tkS dp y E j k) ∧ IR (wi.drew.setCell ⟨tb, p, none⟩ (.int .i64 (upI z0 i q p + tkS dp y E p k + F p))) (some ⟨fb, fo, none⟩) n F) := hid ⟨HH.out.1.drew.setCell (by show w9.heap.size ≤ tb; rw [HTB.out]; exact Nat.le_refl _) _, (TI.set (W := wi.drew) HH.out.2.1 hpt _).congr (fun j hj => by
                    by_cases e : j = p
                    · subst e; rw [if_pos rfl, if_pos (by omega)]
                    · rw [if_neg e]
                      by_cases e2 : j < p
                      · rw [if_pos e2, if_pos (by omega)]
                      · rw [if_neg e2, if_neg (by omega)]), IR.other (w := wi.drew) HH.out.2.2 _ hne⟩
                clear g1 g2 hfb
                generalize F p = x1 at *
                generalize upI z0 i q p + tkS dp y E p k = x2 at *
                go_wp2
                go_region
                go_wp2
                go_roundw
                case rel => exact ⟨p + 1, by omega, by go_num, HN⟩
                case measure => simp [intOf]; omega
              · obtain rfl : p = n := by omega
                have lpp : ¬ (p : Int) < (p : Int) := by omega
                have HN : Hid (TI wi tb p (fun j => upI z0 i q j + tkS dp y E j (k + 1)) ∧ Below w9.heap.size w9 wi ∧ ∀ j, 0 ≤ upI z0 i q j + tkS dp y E j (k + 1) ∧ upI z0 i q j + tkS dp y E j (k + 1) ≤ 1000000 * (((k + 1 : Nat) : Int) + 1)) := hid ⟨HH.out.2.1.congr (fun j hj => by rw [if_pos hj, HTK.out]; omega), HH.out.1, fun j => by
                  have g1 := HG.out.2.2 j
                  have g2 := HFQ.out j
                  rw [HTK.out]; omega⟩
                clear HG HH
                go_wp2
                go_roundw
                case rel => exact ⟨k + 1, by omega, by go_num, HN⟩
                case measure => simp [intOf]; omega
          · obtain rfl : k = n := by omega
            have lkk : ¬ (k : Int) < (k : Int) := by omega
            have HZ : Hid (IR wo (some ⟨tb, 0, none⟩) k E ∧ IR wo ea k E ∧ Below w.heap.size w wo) := hid ⟨(HG.out.1.congr (fun j hj => (HSU.out j).symm)).row, HW9.out.2.2.below HG.out.2.1, bel_on HW9.out.1 HG.out.2.1⟩
            clear HG
            go_wp2_with (go_at_call 24; refine (sameInts_same _ _ _ _ _ E _ hn1 HZ.out.1 HZ.out.2.1).mono ?_; rintro e wz ⟨rfl, bz⟩; have HBZ : Hid (Below w.heap.size w wz) := hid (bel_on HZ.out.2.2 bz); clear bz)
            go_returns
            exact ⟨rfl, HBZ.out⟩
  cases hN : rkB neB n d a q y
  · rw [rk_m hE, hE] at XA
    rw [rk_m hE, hE] at XB
    rw [hN] at XC
    clear hE hN XD
    go_wp2_with (first
      | (go_at_call 22; refine XA.out.mono ?_; rintro e w3 ⟨ra, rc, rfl, _, b3⟩; have HB3 : Hid (Below w.heap.size w w3 ∧ ITr w3 (some ia) n d) := hid ⟨bel_on HB2.out b3, HR2.out.below b3⟩; clear b3)
      | (go_at_call 23; refine (XB.out _ HB3.out.2).mono ?_; rintro e w4 ⟨x1, x2, rfl, _, b4⟩; have HB4 : Hid (Below w.heap.size w w4 ∧ ITr w4 (some ia) n d) := hid ⟨bel_on HB3.out.1 b4, HB3.out.2.below b4⟩; clear b4)
      | (go_at_call 19; refine (XC.out _ HB4.out.2).mono ?_; rintro e w5 ⟨x3, x4, rfl, _, b5⟩; have HB5 : Hid (Below w.heap.size w w5 ∧ ITr w5 (some ia) n d) := hid ⟨bel_on HB4.out.1 b5, HB4.out.2.below b5⟩; clear b5; have HBV : Hid (Below w.heap.size w w5) := HB5.out.1; have HRV : Hid (ITr w5 (some ia) n d) := HB5.out.2; obtain ⟨vs, v1, v2, v3, v4⟩ := it_vals HRV.out; have HVL : Hid (vs.length = n * 5) := v1; have HV1 : Hid (∀ v ∈ vs, v.oneCell' = true) := v2; have HVS : Hid (∀ j u, vs[j]? = some u → (w5.alloc (.cells #[] 31 (0, 0))).cell? (ia.add j) = some u) := hid (v3 _ ((Below.refl _ _).alloc (Nat.le_refl _) _)); have HV4 := hid v4; clear v1 v2 v3 v4; obtain ⟨i0, hi, hz0, hz1, hz2⟩ := infoIT)
      | (at_builtin; go_loud (refine wpList_append_own_at _ rfl _ _ 32 rfl w5.heap.size 31 i0 (.agg #[.string ByteArray.empty, .int .i64 0, .bool false, .slice none 0 0, .slice none 0 0]) 5 80 Try.underlying32 hi hz0 hz1 hz2 rfl (by decide) (.slice (some ⟨w5.heap.size, 0, none⟩) 0 0) 0 [] rfl (madeIT (CB.new _ _) (Nat.le_refl _)) ia n ic vs rfl HVL.out HVS.out HV1.out (by unfold maxLen; omega) (by omega) (by simp) ?_; intro v7 w7 hown hgrow _ _; rw [Nat.zero_add, List.nil_append] at hown; have HPL : Hid (PL w5 v7 n d w7) := hid (PL.of (below_app hgrow) hown HV4.out); clear hown hgrow)))
    clear XA XB XC HB3 HB4
    clear hi hz0 hz1 hz2 HVL HV1 HVS HV4
    obtain ⟨ad7, cap7, hv7, _⟩ := HPL.out.2
    have HP7 : Hid (n = 0 ∨ ∃ g, ad7 = some ⟨g, 0, none⟩ ∧ CI w5 g n d w7) := hid (by
      obtain ⟨_, ad8, cap8, e8, h8⟩ := HPL.out
      rw [hv7] at e8
      simp only [Value.slice.injEq] at e8
      obtain ⟨rfl, _⟩ := e8
      exact h8)
    have HB7 : Hid (Below w5.heap.size w5 w7) := HPL.out.1
    subst hv7
    clear HPL
    go_loopw [17] (fun u wr => ∃ k : Nat, k ≤ n ∧ u = .int .i64 (k : Int) ∧ Hid (Below w5.heap.size w5 wr ∧ (n = 0 ∨ ∃ g, ad7 = some ⟨g, 0, none⟩ ∧ CI w5 g n (fun j => if j < k then { d j with pha := false } else d j) wr))) (fun u _ => n - (intOf u).toNat)
    case atStart => exact ⟨0, Nat.zero_le _, rfl, hid ⟨HB7.out, by rcases HP7.out with h | ⟨g, e, h⟩; exact .inl h; exact .inr ⟨g, e, h.congr (fun j hj => by rw [if_neg (by omega)])⟩⟩⟩
    case round =>
      clear HP7 HB7
      obtain ⟨k, hk, rfl, HG⟩ := hrel
      by_cases hlt : k < n
      · have hlt2 : (k : Int) < (n : Int) := by omega
        obtain ⟨g, rfl, hci⟩ := HG.out.2.resolve_left (by omega)
        obtain ⟨⟨u2, x2⟩, _, xf⟩ := hci.cells hlt
        have f2 := xf (k * 5 + 2)
        have HCI : Hid (CI w5 g n (fun j => if j < k + 1 then { d j with pha := false } else d j) (wr.setCell ⟨g, k * 5 + 2, none⟩ (.bool false))) := hid ((hci.pha hlt false).congr (fun j hj => by
          by_cases e : j = k
          · subst e; simp
          · simp only [if_neg e]
            by_cases e2 : j < k
            · rw [if_pos e2, if_pos (by omega)]
            · rw [if_neg e2, if_neg (by omega)]))
        clear hci xf
        go_wp2
        go_roundw
        case rel => exact ⟨k + 1, by omega, by go_num, hid ⟨HCI.out.bel, .inr ⟨g, rfl, HCI.out⟩⟩⟩
        case measure => simp [intOf]; omega
      · obtain rfl : k = n := by omega
        have lkk : ¬ (k : Int) < (k : Int) := by omega
        have HRP : Hid (Below w.heap.size w wr ∧ ITr wr ad7 k (fun j => { d j with pha := false })) := hid ⟨bel_on HBV.out HG.out.1, by
          rcases HG.out.2 with h | ⟨g, rfl, h⟩
          · exact .inl h
          · exact (h.congr (fun j hj => by rw [if_pos hj])).row⟩
        clear HG
        obtain ⟨n, rfl⟩ : ∃ x, x = k := ⟨k, rfl⟩
        have HIP : Hid (IZ n (fun j => { d j with pha := false })) := hid (fun j hj => HIZ.out j hj)
        have HPH : Hid (∀ j, j < n → ((fun j => ({ d j with pha := false } : IT)) j).pha = false) := hid (fun j hj => rfl)
        generalize (fun j => ({ d j with pha := false } : IT)) = dp at HRP HIP HPH
        have HEI : Hid (∀ (W : World) (ax : Option Addr) (cx : Nat) (x0 x : Int), ITr W ax n dp → Calls Try.prog 22 #[.slice ax n cx, .int .i64 x0, .int .i64 x, .int .i64 y] W fun e w' => ∃ ad cp, e = .returned (.tuple #[.slice ad (rkM eoB n dp x0 x y) cp, .bool (rkB eoB n dp x0 x y)]) ∧ OwnI w' W.heap.size ad (rkM eoB n dp x0 x y) (eoF n dp y x0.toNat x) ∧ Below W.heap.size W w') := fun W ax cx x0 x h => implExplode_any ax n cx dp x0 x y W hn1 HIP.out h
        have HES : Hid (∀ (W : World) (ax : Option Addr) (cx : Nat) (x0 x : Int), ITr W ax n dp → Calls Try.prog 23 #[.slice ax n cx, .int .i64 x0, .int .i64 x, .int .i64 y] W fun e w' => ∃ ad cp, e = .returned (.tuple #[.slice ad (rkM eoB n dp x0 x y) cp, .bool (rkB eoB n dp x0 x y)]) ∧ OwnI w' W.heap.size ad (rkM eoB n dp x0 x y) (eoF n dp y x0.toNat x) ∧ Below W.heap.size W w') := fun W ax cx x0 x h => specExplode_any ax n cx dp x0 x y W hn1 HIP.out h
        have HNI : Hid (∀ (W : World) (ax : Option Addr) (cx : Nat) (x0 x : Int), ITr W ax n dp → Calls Try.prog 17 #[.slice ax n cx, .int .i64 x0, .int .i64 x, .int .i64 y] W fun e w' => ∃ ad cp, e = .returned (.tuple #[.slice ad (rkM neB n dp x0 x y) cp, .bool (rkB neB n dp x0 x y)]) ∧ OwnI w' W.heap.size ad (rkM neB n dp x0 x y) (neF n dp y x0.toNat x) ∧ Below W.heap.size W w') := fun W ax cx x0 x h => implNeeds_any ax n cx dp x0 x y W hn1 HIP.out h
        have HNS : Hid (∀ (W : World) (ax : Option Addr) (cx : Nat) (x0 x : Int), ITr W ax n dp → Calls Try.prog 19 #[.slice ax n cx, .int .i64 x0, .int .i64 x, .int .i64 y] W fun e w' => ∃ ad cp, e = .returned (.tuple #[.slice ad (rkM neB n dp x0 x y) cp, .bool (rkB neB n dp x0 x y)]) ∧ OwnI w' W.heap.size ad (rkM neB n dp x0 x y) (neF n dp y x0.toNat x) ∧ Below W.heap.size W w') := fun W ax cx x0 x h => specNeeds_any ax n cx dp x0 x y W hn1 HIP.out h
        clear HIZ HIP
        cases hE2 : rkB eoB n dp a q y
        · have X1 := hid (HEI.out wr ad7 cap7 a q HRP.out.2)
          rw [hE2] at X1
          have X2 : Hid (∀ W, ITr W ad7 n dp → _) := hid (fun W h => HES.out W ad7 cap7 a q h)
          rw [hE2] at X2
          clear HEI HES HNI HNS hE2
          go_wp2_with (first
            | (go_at_call 22; refine X1.out.mono ?_; rintro e w8 ⟨x1, x2, rfl, _, b8⟩; have HB8 : Hid (Below w.heap.size w w8 ∧ ITr w8 ad7 n dp) := hid ⟨bel_on HRP.out.1 b8, HRP.out.2.below b8⟩; clear b8)
            | (go_at_call 23; refine (X2.out _ HB8.out.2).mono ?_; rintro e w9 ⟨x3, x4, rfl, _, b9⟩; have HB9 : Hid (Below w.heap.size w w9) := hid (bel_on HB8.out.1 b9); clear b9))
          go_returns
          exact ⟨rfl, HB9.out⟩
        have HAK := hid (eoF_q hE2)
        have hqq := rk_qty hE2
        obtain ⟨i, hia⟩ : ∃ i : Nat, a = (i : Int) := ⟨a.toNat, by have := (akB_p HAK.out.1).2.1; omega⟩
        subst hia
        have hin : i < n := by have := (akB_p HAK.out.1).2.1; omega
        have hin2 : (i : Int) < (n : Int) := by omega
        have HIS : Hid (isB n dp = true ∧ 0 ≤ y ∧ y ≤ 40000) := hid ⟨(akB_p HAK.out.1).1, (akB_p HAK.out.1).2.2.2⟩
        have HEQ : Hid (FQ (eoF n dp y i q)) := hid (by have := HAK.out.2; simpa using this)
        have HSU : Hid (∀ j, eoF n dp y i q j = upI z0 i q j + tkS dp y (eoF n dp y i q) j n) := hid (fun j => eo_sum HIS.out.1 hin j)
        have X1 := hid (HEI.out wr ad7 cap7 (i : Int) q HRP.out.2)
        rw [rk_m hE2, hE2, show ((i : Int)).toNat = i by simp] at X1
        have X2 : Hid (∀ W, ITr W ad7 n dp → _) := hid (fun W h => HES.out W ad7 cap7 (i : Int) q h)
        rw [rk_m hE2, hE2] at X2
        clear HEI HES hE2 HAK
        obtain ⟨E, hE⟩ : ∃ E, eoF n dp y i q = E := ⟨_, rfl⟩
        rw [hE] at X1 HEQ HSU
        clear hE
        have hmk := mkI n hn1
        have hnn : ((n : Int) != (n : Int)) = false := by simp
        go_wp2_with (first
          | (go_at_call 22; refine X1.out.mono ?_; rintro e w8 ⟨ea, ec, rfl, o8, b8⟩; have HB8 : Hid (Below w.heap.size w w8 ∧ ITr w8 ad7 n dp ∧ IR w8 ea n E) := hid ⟨bel_on HRP.out.1 b8, HRP.out.2.below b8, o8.row⟩; clear b8 o8)
          | (go_at_call 23; refine (X2.out _ HB8.out.2.1).mono ?_; rintro e w9 ⟨x3, x4, rfl, _, b9⟩; have HB9 : Hid (Below w.heap.size w w9 ∧ ITr w9 ad7 n dp ∧ IR w9 ea n E) := hid ⟨bel_on HB8.out.1 b9, HB8.out.2.1.below b9, HB8.out.2.2.below b9⟩; have HTI := hid (TI.made w9 n); have s1 := HTI.out.cell hin; have s2 := HTI.out.fr i; have HT0 : Hid (TI (w9.alloc (.cells ((zeros n).setIfInBounds i (.int .i64 q)) 3)) w9.heap.size n (fun j => upI z0 i q j + tkS dp y E j 0) ∧ Below w9.heap.size w9 (w9.alloc (.cells ((zeros n).setIfInBounds i (.int .i64 q)) 3))) := hid ⟨(TI.made1 w9 hin q).congr (fun j hj => by show (if j = i then q else 0) = (if j = i then q else 0) + 0; omega), (Below.refl _ _).alloc (Nat.le_refl _) _⟩; clear b9))
        clear X1 X2 HB8 HTI s1 s2 hmk
        obtain ⟨tb, htb⟩ : ∃ t, w9.heap.size = t := ⟨_, rfl⟩
        have HTB : Hid (w9.heap.size = tb) := htb
        have HW9 : Hid (Below w.heap.size w w9 ∧ ITr w9 ad7 n dp ∧ IR w9 ea n E) := HB9
        clear HB9 HRP
        rw [htb] at HT0 ⊢
        clear htb
        go_loopw [19] (fun u wr => ∃ k : Nat, k ≤ n ∧ u = .int .i64 (k : Int) ∧ Hid (TI wr tb n (fun j => upI z0 i q j + tkS dp y E j k) ∧ Below w9.heap.size w9 wr ∧ ∀ j, 0 ≤ upI z0 i q j + tkS dp y E j k ∧ upI z0 i q j + tkS dp y E j k ≤ 1000000 * ((k : Int) + 1))) (fun u _ => n - (intOf u).toNat)
        case atStart => exact ⟨0, Nat.zero_le _, rfl, hid ⟨HT0.out.1, by rw [HTB.out]; exact HT0.out.2, fun j => by
          have : 0 ≤ upI z0 i q j ∧ upI z0 i q j ≤ 1000000 := z0_q.up i hqq.1 hqq.2 j
          show 0 ≤ upI z0 i q j + 0 ∧ upI z0 i q j + 0 ≤ _
          omega⟩⟩
        case round =>
          clear HT0
          obtain ⟨k, hk, rfl, HG⟩ := hrel
          obtain ⟨wo, rfl⟩ : ∃ x, x = wr := ⟨wr, rfl⟩
          by_cases hlt : k < n
          · have hlt2 : (k : Int) < (n : Int) := by omega
            have HER : Hid (IR wo ea n E ∧ ITr wo ad7 n dp) := hid ⟨HW9.out.2.2.below HG.out.2.1, HW9.out.2.1.below HG.out.2.1⟩
            obtain ⟨eb, eo, rfl, _⟩ := HER.out.1.addr (by omega)
            have s1 := HER.out.1.cell hlt
            have XS := hid (HNS.out wo ad7 cap7 (k : Int) (E k) HER.out.2)
            have XI : Hid (∀ W, ITr W ad7 n dp → _) := hid (fun W h => HNI.out W ad7 cap7 (k : Int) (E k) h)
            cases hN : rkB neB n dp (k : Int) (E k) y
            · rw [hN] at XS
              clear XI hN
              generalize E k = x at *
              go_wp2_with (go_at_call 19; refine XS.out.mono ?_; rintro e wa ⟨x1, x2, rfl, _, ba⟩; have HBA : Hid (Below w.heap.size w wa) := hid (bel_on (bel_on HW9.out.1 HG.out.2.1) ba); clear ba)
              go_returns
              exact ⟨rfl, HBA.out⟩
            have HFQ : Hid (FQ (xpF dp y z0 k (E k))) := hid (by
              have := ne_q hN
              rw [show ((k : Int)).toNat = k by simp, (ne_plain HPH.out).1] at this; exact this)
            rw [rk_m hN, hN] at XS XI
            rw [show ((k : Int)).toNat = k by simp, (ne_plain HPH.out).1] at XI
            clear hN
            have HTK : Hid (∀ j, tkS dp y E j (k + 1) = tkS dp y E j k + xpF dp y z0 k (E k) j) := hid (fun j => rfl)
            obtain ⟨F, hF⟩ : ∃ F, xpF dp y z0 k (E k) = F := ⟨_, rfl⟩
            rw [hF] at HFQ XI HTK
            clear hF
            generalize hx : E k = x at s1 XS XI
            clear hx
            go_wp2_with (first
              | (go_at_call 19; refine XS.out.mono ?_; rintro e wa ⟨x1, x2, rfl, _, ba⟩; have HBA : Hid (Below w9.heap.size w9 wa ∧ TI wa tb n (fun j => upI z0 i q j + tkS dp y E j k) ∧ ITr wa ad7 n dp) := hid ⟨bel_on HG.out.2.1 ba, HG.out.1.below ba, HER.out.2.below ba⟩; have s2 : wa.cell? ⟨eb, eo + k, none⟩ = some (.int .i64 x) := keep_cell ba s1; clear ba s1)
              | (go_at_call 17; refine (XI.out _ HBA.out.2.2).mono ?_; rintro e wb ⟨fa, fc, rfl, ob, bb⟩; have HBB : Hid (Below w9.heap.size w9 wb ∧ TI wb tb n (fun j => upI z0 i q j + tkS dp y E j k) ∧ IR wb fa n F) := hid ⟨bel_on HBA.out.1 bb, HBA.out.2.1.below bb, ob.row⟩; have HFB : Hid (∀ g o, fa = some ⟨g, o, none⟩ → n ≠ 0 → g ≠ tb) := hid (fun g o e h0 => by rcases ob with h | ⟨g', cs, e1, e2, _⟩; exact absurd h h0; rw [e1] at e; cases e; have := HBA.out.2.1.lt; omega); clear bb ob s2))
            clear XS XI HBA HER
            go_loopw [22] (fun u wr => ∃ p : Nat, p ≤ n ∧ u = .int .i64 (p : Int) ∧ Hid (Below w9.heap.size w9 wr ∧ TI wr tb n (fun j => if j < p then upI z0 i q j + tkS dp y E j k + F j else upI z0 i q j + tkS dp y E j k) ∧ IR wr fa n F)) (fun u _ => n - (intOf u).toNat)
            case atStart => exact ⟨0, Nat.zero_le _, rfl, hid ⟨HBB.out.1, HBB.out.2.1.congr (fun j hj => by rw [if_neg (by omega)]), HBB.out.2.2⟩⟩
            case round =>
              clear HBB
              obtain ⟨p, hp, rfl, HH⟩ := hrel
              obtain ⟨wi, rfl⟩ : ∃ x, x = wr := ⟨wr, rfl⟩
              by_cases hpt : p < n
              · have hpt2 : (p : Int) < (n : Int) := by omega
                obtain ⟨fb, fo, rfl, hfb⟩ := HH.out.2.2.addr (by omega)
                have hne : fb ≠ tb := HFB.out _ _ rfl (by omega)
                have c1 : wi.cell? ⟨tb, p, none⟩ = some (.int .i64 (upI z0 i q p + tkS dp y E p k)) := (HH.out.2.1.cell hpt).trans (by rw [if_neg (by omega)])
                have c2 : wi.cell? ⟨fb, fo + p, none⟩ = some (.int .i64 (F p)) := HH.out.2.2.cell hpt
                have c3 := HH.out.2.1.fr p
                have d1 : wi.drew.cell? ⟨tb, p, none⟩ = some (.int .i64 (upI z0 i q p + tkS dp y E p k)) := c1
                have d2 : wi.drew.cell? ⟨fb, fo + p, none⟩ = some (.int .i64 (F p)) := c2
                have d3 : wi.drew.frozen? ⟨tb, p, none⟩ = false := c3
                have g1 := HG.out.2.2 p
                have g2 := HFQ.out p
                have hw1 : IntKind.i64.wrap (upI z0 i q p + tkS dp y E p k + F p) = upI z0 i q p + tkS dp y E p k + F p := IntWalk.i64_in _ ⟨by omega, by omega⟩
                have HN : Hid (Below w9.heap.size w9 (wi.drew.setCell ⟨tb, p, none⟩ (.int .i64 (upI z0 i q p + tkS dp y E p k + F p))) ∧ TI (wi.drew.setCell ⟨tb, p, none⟩ (.int .i64 (upI z0 i q p + tkS dp y E p k + F p))) tb n (fun j => if j < p + 1 then upI z0 i q j + tkS dp y E j k + F j else upI z0 i q j + tkS dp y E j k) ∧ IR (wi.drew.setCell ⟨tb, p, none⟩ (.int .i64 (upI z0 i q p + tkS dp y E p k + F p))) (some ⟨fb, fo, none⟩) n F) := hid ⟨HH.out.1.drew.setCell (by show w9.heap.size ≤ tb; rw [HTB.out]; exact Nat.le_refl _) _, (TI.set (W := wi.drew) HH.out.2.1 hpt _).congr (fun j hj => by
                    by_cases e : j = p
                    · subst e; rw [if_pos rfl, if_pos (by omega)]
                    · rw [if_neg e]
                      by_cases e2 : j < p
                      · rw [if_pos e2, if_pos (by omega)]
                      · rw [if_neg e2, if_neg (by omega)]), IR.other (w := wi.drew) HH.out.2.2 _ hne⟩
                clear g1 g2 hfb
                generalize F p = x1 at *
                generalize upI z0 i q p + tkS dp y E p k = x2 at *
                go_wp2
                go_region
                go_wp2
                go_roundw
                case rel => exact ⟨p + 1, by omega, by go_num, HN⟩
                case measure => simp [intOf]; omega
              · obtain rfl : p = n := by omega
                have lpp : ¬ (p : Int) < (p : Int) := by omega
                have HN : Hid (TI wi tb p (fun j => upI z0 i q j + tkS dp y E j (k + 1)) ∧ Below w9.heap.size w9 wi ∧ ∀ j, 0 ≤ upI z0 i q j + tkS dp y E j (k + 1) ∧ upI z0 i q j + tkS dp y E j (k + 1) ≤ 1000000 * (((k + 1 : Nat) : Int) + 1)) := hid ⟨HH.out.2.1.congr (fun j hj => by rw [if_pos hj, HTK.out]; omega), HH.out.1, fun j => by
                  have g1 := HG.out.2.2 j
                  have g2 := HFQ.out j
                  rw [HTK.out]; omega⟩
                clear HG HH
                go_wp2
                go_roundw
                case rel => exact ⟨k + 1, by omega, by go_num, HN⟩
                case measure => simp [intOf]; omega
          · obtain rfl : k = n := by omega
            have lkk : ¬ (k : Int) < (k : Int) := by omega
            have HZ : Hid (IR wo (some ⟨tb, 0, none⟩) k E ∧ IR wo ea k E ∧ Below w.heap.size w wo) := hid ⟨(HG.out.1.congr (fun j hj => (HSU.out j).symm)).row, HW9.out.2.2.below HG.out.2.1, bel_on HW9.out.1 HG.out.2.1⟩
            clear HG
            go_wp2_with (go_at_call 24; refine (sameInts_same _ _ _ _ _ E _ hn1 HZ.out.1 HZ.out.2.1).mono ?_; rintro e wz ⟨rfl, bz⟩; have HBZ : Hid (Below w.heap.size w wz) := hid (bel_on HZ.out.2.2 bz); clear bz)
            go_returns
            exact ⟨rfl, HBZ.out⟩
  have HLE : Hid (∀ j : Nat, (j : Int) ≠ a → neF n d y a.toNat q j ≤ eoF n d y a.toNat q j) := hid (fun j hj => by
    have h1 := hE
    have h2 := hN
    unfold rkB at h1 h2
    rw [Bool.and_eq_true] at h1 h2
    obtain ⟨hI, ha, hq, hd⟩ := akB_p h1.1
    exact ne_eo hI (by omega) hq.1 hq.2 h2.2 h1.2 j (by omega))
  rw [rk_m hE, hE] at XA XB
  rw [rk_m hN, hN] at XC XD
  clear hE hN
  have hnn : ((n : Int) != (n : Int)) = false := by simp
  obtain ⟨E0, hE0⟩ : ∃ E, eoF n d y a.toNat q = E := ⟨_, rfl⟩
  obtain ⟨N0, hN0⟩ : ∃ E, neF n d y a.toNat q = E := ⟨_, rfl⟩
  rw [hE0] at XA XB HLE
  rw [hN0] at XC XD HLE
  clear hE0 hN0
  go_wp2_with (first
    | (go_at_call 22; refine XA.out.mono ?_; rintro e w3 ⟨ra, rc, rfl, o3, b3⟩; have HB3 : Hid (Below w.heap.size w w3 ∧ ITr w3 (some ia) n d ∧ IR w3 ra n E0) := hid ⟨bel_on HB2.out b3, HR2.out.below b3, o3.row⟩; clear b3 o3)
    | (go_at_call 23; refine (XB.out _ HB3.out.2.1).mono ?_; rintro e w4 ⟨x1, x2, rfl, _, b4⟩; have HB4 : Hid (Below w.heap.size w w4 ∧ ITr w4 (some ia) n d ∧ IR w4 ra n E0) := hid ⟨bel_on HB3.out.1 b4, HB3.out.2.1.below b4, HB3.out.2.2.below b4⟩; clear b4)
    | (go_at_call 19; refine (XC.out _ HB4.out.2.1).mono ?_; rintro e w5 ⟨x3, x4, rfl, _, b5⟩; have HB5 : Hid (Below w.heap.size w w5 ∧ ITr w5 (some ia) n d ∧ IR w5 ra n E0) := hid ⟨bel_on HB4.out.1 b5, HB4.out.2.1.below b5, HB4.out.2.2.below b5⟩; clear b5)
    | (go_at_call 17; refine (XD.out _ HB5.out.2.1).mono ?_; rintro e w6 ⟨na, nc, rfl, o6, b6⟩; have HB6 : Hid (Below w.heap.size w w6 ∧ ITr w6 (some ia) n d ∧ IR w6 ra n E0 ∧ IR w6 na n N0) := hid ⟨bel_on HB5.out.1 b6, HB5.out.2.1.below b6, HB5.out.2.2.below b6, o6.row⟩; clear b6 o6))
  clear XA XB XC XD HB3 HB4 HB5
  go_loopw [15] (fun u wr => ∃ k : Nat, k ≤ n ∧ u = .int .i64 (k : Int) ∧ Hid (Below w.heap.size w wr ∧ ITr wr (some ia) n d ∧ IR wr ra n E0 ∧ IR wr na n N0)) (fun u _ => n - (intOf u).toNat)
  case atStart => exact ⟨0, Nat.zero_le _, rfl, HB6⟩
  case round =>
    clear HB6
    obtain ⟨k, hk, rfl, HG⟩ := hrel
    obtain ⟨wi, rfl⟩ : ∃ x, x = wr := ⟨wr, rfl⟩
    by_cases hlt : k < n
    · have hlt2 : (k : Int) < (n : Int) := by omega
      obtain ⟨rb, ro, rfl, _⟩ := HG.out.2.2.1.addr (by omega)
      obtain ⟨sb, so, rfl, _⟩ := HG.out.2.2.2.addr (by omega)
      have s1 : wi.cell? ⟨rb, ro + k, none⟩ = some (.int .i64 (E0 k)) := HG.out.2.2.1.cell hlt
      have s2 : wi.cell? ⟨sb, so + k, none⟩ = some (.int .i64 (N0 k)) := HG.out.2.2.2.cell hlt
      have t1 : wi.drew.cell? ⟨rb, ro + k, none⟩ = some (.int .i64 (E0 k)) := s1
      have t2 : wi.drew.cell? ⟨sb, so + k, none⟩ = some (.int .i64 (N0 k)) := s2
      by_cases hka : (k : Int) = a
      · have hd : ((k : Int) != a) = false := by simp [hka]
        go_wp2
        go_quiet (fail)
        go_wp2
        go_roundw
        case rel => exact ⟨k + 1, by omega, by go_num, hid ⟨bd_N HG.out.1 _, HG.out.2.1.below (bd_N (Below.refl _ _) _), HG.out.2.2.1, HG.out.2.2.2⟩⟩
        case measure => simp [intOf]; omega
      · have hd : ((k : Int) != a) = true := by simp [hka]
        have g1 := HLE.out k hka
        have hc1 : decide (E0 k < N0 k) = false := decide_eq_false (by omega)
        clear g1
        generalize E0 k = x1 at *
        generalize N0 k = x2 at *
        go_wp2
        go_quiet (fail)
        go_wp2
        go_roundw
        case rel => exact ⟨k + 1, by omega, by go_num, hid ⟨bd_N HG.out.1 _, HG.out.2.1.below (bd_N (Below.refl _ _) _), HG.out.2.2.1, HG.out.2.2.2⟩⟩
        case measure => simp [intOf]; omega
    · obtain rfl : k = n := by omega
      have lkk : ¬ (k : Int) < (k : Int) := by omega
      obtain ⟨n, rfl⟩ : ∃ x, x = k := ⟨k, rfl⟩
      have HBV : Hid (Below w.heap.size w wi) := HG.out.1
      have HRV : Hid (ITr wi (some ia) n d) := HG.out.2.1
      obtain ⟨vs, v1, v2, v3, v4⟩ := it_vals HRV.out
      have HVL : Hid (vs.length = n * 5) := v1
      have HV1 : Hid (∀ v ∈ vs, v.oneCell' = true) := v2
      have HVS : Hid (∀ j u, vs[j]? = some u → (wi.alloc (.cells #[] 31 (0, 0))).cell? (ia.add j) = some u) := hid (v3 _ ((Below.refl _ _).alloc (Nat.le_refl _) _))
      have HV4 := hid v4
      clear v1 v2 v3 v4
      obtain ⟨i0, hi, hz0, hz1, hz2⟩ := infoIT
      go_wp2_with (at_builtin; go_loud (refine wpList_append_own_at _ rfl _ _ 32 rfl wi.heap.size 31 i0 (.agg #[.string ByteArray.empty, .int .i64 0, .bool false, .slice none 0 0, .slice none 0 0]) 5 80 Try.underlying32 hi hz0 hz1 hz2 rfl (by decide) (.slice (some ⟨wi.heap.size, 0, none⟩) 0 0) 0 [] rfl (madeIT (CB.new _ _) (Nat.le_refl _)) ia n ic vs rfl HVL.out HVS.out HV1.out (by unfold maxLen; omega) (by omega) (by simp) ?_; intro v7 w7 hown hgrow _ _; rw [Nat.zero_add, List.nil_append] at hown; have HPL : Hid (PL wi v7 n d w7) := hid (PL.of (below_app hgrow) hown HV4.out); clear hown hgrow))
      clear hi hz0 hz1 hz2 HVL HV1 HVS HV4
      obtain ⟨ad7, cap7, hv7, _⟩ := HPL.out.2
      have HP7 : Hid (n = 0 ∨ ∃ g, ad7 = some ⟨g, 0, none⟩ ∧ CI wi g n d w7) := hid (by
        obtain ⟨_, ad8, cap8, e8, h8⟩ := HPL.out
        rw [hv7] at e8
        simp only [Value.slice.injEq] at e8
        obtain ⟨rfl, _⟩ := e8
        exact h8)
      have HB7 : Hid (Below wi.heap.size wi w7) := HPL.out.1
      subst hv7
      clear HPL
      go_loopw [17] (fun u wr => ∃ k : Nat, k ≤ n ∧ u = .int .i64 (k : Int) ∧ Hid (Below wi.heap.size wi wr ∧ (n = 0 ∨ ∃ g, ad7 = some ⟨g, 0, none⟩ ∧ CI wi g n (fun j => if j < k then { d j with pha := false } else d j) wr))) (fun u _ => n - (intOf u).toNat)
      case atStart => exact ⟨0, Nat.zero_le _, rfl, hid ⟨HB7.out, by rcases HP7.out with h | ⟨g, e, h⟩; exact .inl h; exact .inr ⟨g, e, h.congr (fun j hj => by rw [if_neg (by omega)])⟩⟩⟩
      case round =>
        clear HP7 HB7
        obtain ⟨k, hk, rfl, HG⟩ := hrel
        by_cases hlt : k < n
        · have hlt2 : (k : Int) < (n : Int) := by omega
          obtain ⟨g, rfl, hci⟩ := HG.out.2.resolve_left (by omega)
          obtain ⟨⟨u2, x2⟩, _, xf⟩ := hci.cells hlt
          have f2 := xf (k * 5 + 2)
          have HCI : Hid (CI wi g n (fun j => if j < k + 1 then { d j with pha := false } else d j) (wr.setCell ⟨g, k * 5 + 2, none⟩ (.bool false))) := hid ((hci.pha hlt false).congr (fun j hj => by
            by_cases e : j = k
            · subst e; simp
            · simp only [if_neg e]
              by_cases e2 : j < k
              · rw [if_pos e2, if_pos (by omega)]
              · rw [if_neg e2, if_neg (by omega)]))
          clear hci xf
          go_wp2
          go_roundw
          case rel => exact ⟨k + 1, by omega, by go_num, hid ⟨HCI.out.bel, .inr ⟨g, rfl, HCI.out⟩⟩⟩
          case measure => simp [intOf]; omega
        · obtain rfl : k = n := by omega
          have lkk : ¬ (k : Int) < (k : Int) := by omega
          have HRP : Hid (Below w.heap.size w wr ∧ ITr wr ad7 k (fun j => { d j with pha := false })) := hid ⟨bel_on HBV.out HG.out.1, by
            rcases HG.out.2 with h | ⟨g, rfl, h⟩
            · exact .inl h
            · exact (h.congr (fun j hj => by rw [if_pos hj])).row⟩
          clear HG
          obtain ⟨n, rfl⟩ : ∃ x, x = k := ⟨k, rfl⟩
          have HIP : Hid (IZ n (fun j => { d j with pha := false })) := hid (fun j hj => HIZ.out j hj)
          have HPH : Hid (∀ j, j < n → ((fun j => ({ d j with pha := false } : IT)) j).pha = false) := hid (fun j hj => rfl)
          generalize (fun j => ({ d j with pha := false } : IT)) = dp at HRP HIP HPH
          have HEI : Hid (∀ (W : World) (ax : Option Addr) (cx : Nat) (x0 x : Int), ITr W ax n dp → Calls Try.prog 22 #[.slice ax n cx, .int .i64 x0, .int .i64 x, .int .i64 y] W fun e w' => ∃ ad cp, e = .returned (.tuple #[.slice ad (rkM eoB n dp x0 x y) cp, .bool (rkB eoB n dp x0 x y)]) ∧ OwnI w' W.heap.size ad (rkM eoB n dp x0 x y) (eoF n dp y x0.toNat x) ∧ Below W.heap.size W w') := fun W ax cx x0 x h => implExplode_any ax n cx dp x0 x y W hn1 HIP.out h
          have HES : Hid (∀ (W : World) (ax : Option Addr) (cx : Nat) (x0 x : Int), ITr W ax n dp → Calls Try.prog 23 #[.slice ax n cx, .int .i64 x0, .int .i64 x, .int .i64 y] W fun e w' => ∃ ad cp, e = .returned (.tuple #[.slice ad (rkM eoB n dp x0 x y) cp, .bool (rkB eoB n dp x0 x y)]) ∧ OwnI w' W.heap.size ad (rkM eoB n dp x0 x y) (eoF n dp y x0.toNat x) ∧ Below W.heap.size W w') := fun W ax cx x0 x h => specExplode_any ax n cx dp x0 x y W hn1 HIP.out h
          have HNI : Hid (∀ (W : World) (ax : Option Addr) (cx : Nat) (x0 x : Int), ITr W ax n dp → Calls Try.prog 17 #[.slice ax n cx, .int .i64 x0, .int .i64 x, .int .i64 y] W fun e w' => ∃ ad cp, e = .returned (.tuple #[.slice ad (rkM neB n dp x0 x y) cp, .bool (rkB neB n dp x0 x y)]) ∧ OwnI w' W.heap.size ad (rkM neB n dp x0 x y) (neF n dp y x0.toNat x) ∧ Below W.heap.size W w') := fun W ax cx x0 x h => implNeeds_any ax n cx dp x0 x y W hn1 HIP.out h
          have HNS : Hid (∀ (W : World) (ax : Option Addr) (cx : Nat) (x0 x : Int), ITr W ax n dp → Calls Try.prog 19 #[.slice ax n cx, .int .i64 x0, .int .i64 x, .int .i64 y] W fun e w' => ∃ ad cp, e = .returned (.tuple #[.slice ad (rkM neB n dp x0 x y) cp, .bool (rkB neB n dp x0 x y)]) ∧ OwnI w' W.heap.size ad (rkM neB n dp x0 x y) (neF n dp y x0.toNat x) ∧ Below W.heap.size W w') := fun W ax cx x0 x h => specNeeds_any ax n cx dp x0 x y W hn1 HIP.out h
          clear HIZ HIP
          cases hE2 : rkB eoB n dp a q y
          · have X1 := hid (HEI.out wr ad7 cap7 a q HRP.out.2)
            rw [hE2] at X1
            have X2 : Hid (∀ W, ITr W ad7 n dp → _) := hid (fun W h => HES.out W ad7 cap7 a q h)
            rw [hE2] at X2
            clear HEI HES HNI HNS hE2
            go_wp2_with (first
              | (go_at_call 22; refine X1.out.mono ?_; rintro e w8 ⟨x1, x2, rfl, _, b8⟩; have HB8 : Hid (Below w.heap.size w w8 ∧ ITr w8 ad7 n dp) := hid ⟨bel_on HRP.out.1 b8, HRP.out.2.below b8⟩; clear b8)
              | (go_at_call 23; refine (X2.out _ HB8.out.2).mono ?_; rintro e w9 ⟨x3, x4, rfl, _, b9⟩; have HB9 : Hid (Below w.heap.size w w9) := hid (bel_on HB8.out.1 b9); clear b9))
            go_returns
            exact ⟨rfl, HB9.out⟩
          have HAK := hid (eoF_q hE2)
          have hqq := rk_qty hE2
          obtain ⟨i, hia⟩ : ∃ i : Nat, a = (i : Int) := ⟨a.toNat, by have := (akB_p HAK.out.1).2.1; omega⟩
          subst hia
          have hin : i < n := by have := (akB_p HAK.out.1).2.1; omega
          have hin2 : (i : Int) < (n : Int) := by omega
          have HIS : Hid (isB n dp = true ∧ 0 ≤ y ∧ y ≤ 40000) := hid ⟨(akB_p HAK.out.1).1, (akB_p HAK.out.1).2.2.2⟩
          have HEQ : Hid (FQ (eoF n dp y i q)) := hid (by have := HAK.out.2; simpa using this)
          have HSU : Hid (∀ j, eoF n dp y i q j = upI z0 i q j + tkS dp y (eoF n dp y i q) j n) := hid (fun j => eo_sum HIS.out.1 hin j)
          have X1 := hid (HEI.out wr ad7 cap7 (i : Int) q HRP.out.2)
          rw [rk_m hE2, hE2, show ((i : Int)).toNat = i by simp] at X1
          have X2 : Hid (∀ W, ITr W ad7 n dp → _) := hid (fun W h => HES.out W ad7 cap7 (i : Int) q h)
          rw [rk_m hE2, hE2] at X2
          clear HEI HES hE2 HAK
          obtain ⟨E, hE⟩ : ∃ E, eoF n dp y i q = E := ⟨_, rfl⟩
          rw [hE] at X1 HEQ HSU
          clear hE
          have hmk := mkI n hn1
          have hnn : ((n : Int) != (n : Int)) = false := by simp
          go_wp2_with (first
            | (go_at_call 22; refine X1.out.mono ?_; rintro e w8 ⟨ea, ec, rfl, o8, b8⟩; have HB8 : Hid (Below w.heap.size w w8 ∧ ITr w8 ad7 n dp ∧ IR w8 ea n E) := hid ⟨bel_on HRP.out.1 b8, HRP.out.2.below b8, o8.row⟩; clear b8 o8)
            | (go_at_call 23; refine (X2.out _ HB8.out.2.1).mono ?_; rintro e w9 ⟨x3, x4, rfl, _, b9⟩; have HB9 : Hid (Below w.heap.size w w9 ∧ ITr w9 ad7 n dp ∧ IR w9 ea n E) := hid ⟨bel_on HB8.out.1 b9, HB8.out.2.1.below b9, HB8.out.2.2.below b9⟩; have HTI := hid (TI.made w9 n); have s1 := HTI.out.cell hin; have s2 := HTI.out.fr i; have HT0 : Hid (TI (w9.alloc (.cells ((zeros n).setIfInBounds i (.int .i64 q)) 3)) w9.heap.size n (fun j => upI z0 i q j + tkS dp y E j 0) ∧ Below w9.heap.size w9 (w9.alloc (.cells ((zeros n).setIfInBounds i (.int .i64 q)) 3))) := hid ⟨(TI.made1 w9 hin q).congr (fun j hj => by show (if j = i then q else 0) = (if j = i then q else 0) + 0; omega), (Below.refl _ _).alloc (Nat.le_refl _) _⟩; clear b9))
          clear X1 X2 HB8 HTI s1 s2 hmk
          obtain ⟨tb, htb⟩ : ∃ t, w9.heap.size = t := ⟨_, rfl⟩
          have HTB : Hid (w9.heap.size = tb) := htb
          have HW9 : Hid (Below w.heap.size w w9 ∧ ITr w9 ad7 n dp ∧ IR w9 ea n E) := HB9
          clear HB9 HRP
          rw [htb] at HT0 ⊢
          clear htb
          go_loopw [19] (fun u wr => ∃ k : Nat, k ≤ n ∧ u = .int .i64 (k : Int) ∧ Hid (TI wr tb n (fun j => upI z0 i q j + tkS dp y E j k) ∧ Below w9.heap.size w9 wr ∧ ∀ j, 0 ≤ upI z0 i q j + tkS dp y E j k ∧ upI z0 i q j + tkS dp y E j k ≤ 1000000 * ((k : Int) + 1))) (fun u _ => n - (intOf u).toNat)
          case atStart => exact ⟨0, Nat.zero_le _, rfl, hid ⟨HT0.out.1, by rw [HTB.out]; exact HT0.out.2, fun j => by
            have : 0 ≤ upI z0 i q j ∧ upI z0 i q j ≤ 1000000 := z0_q.up i hqq.1 hqq.2 j
            show 0 ≤ upI z0 i q j + 0 ∧ upI z0 i q j + 0 ≤ _
            omega⟩⟩
          case round =>
            clear HT0
            obtain ⟨k, hk, rfl, HG⟩ := hrel
            obtain ⟨wo, rfl⟩ : ∃ x, x = wr := ⟨wr, rfl⟩
            by_cases hlt : k < n
            · have hlt2 : (k : Int) < (n : Int) := by omega
              have HER : Hid (IR wo ea n E ∧ ITr wo ad7 n dp) := hid ⟨HW9.out.2.2.below HG.out.2.1, HW9.out.2.1.below HG.out.2.1⟩
              obtain ⟨eb, eo, rfl, _⟩ := HER.out.1.addr (by omega)
              have s1 := HER.out.1.cell hlt
              have XS := hid (HNS.out wo ad7 cap7 (k : Int) (E k) HER.out.2)
              have XI : Hid (∀ W, ITr W ad7 n dp → _) := hid (fun W h => HNI.out W ad7 cap7 (k : Int) (E k) h)
              cases hN : rkB neB n dp (k : Int) (E k) y
              · rw [hN] at XS
                clear XI hN
                generalize E k = x at *
                go_wp2_with (go_at_call 19; refine XS.out.mono ?_; rintro e wa ⟨x1, x2, rfl, _, ba⟩; have HBA : Hid (Below w.heap.size w wa) := hid (bel_on (bel_on HW9.out.1 HG.out.2.1) ba); clear ba)
                go_returns
                exact ⟨rfl, HBA.out⟩
              have HFQ : Hid (FQ (xpF dp y z0 k (E k))) := hid (by
                have := ne_q hN
                rw [show ((k : Int)).toNat = k by simp, (ne_plain HPH.out).1] at this; exact this)
              rw [rk_m hN, hN] at XS XI
              rw [show ((k : Int)).toNat = k by simp, (ne_plain HPH.out).1] at XI
              clear hN
              have HTK : Hid (∀ j, tkS dp y E j (k + 1) = tkS dp y E j k + xpF dp y z0 k (E k) j) := hid (fun j => rfl)
              obtain ⟨F, hF⟩ : ∃ F, xpF dp y z0 k (E k) = F := ⟨_, rfl⟩
              rw [hF] at HFQ XI HTK
              clear hF
              generalize hx : E k = x at s1 XS XI
              clear hx
              go_wp2_with (first
                | (go_at_call 19; refine XS.out.mono ?_; rintro e wa ⟨x1, x2, rfl, _, ba⟩; have HBA : Hid (Below w9.heap.size w9 wa ∧ TI wa tb n (fun j => upI z0 i q j + tkS dp y E j k) ∧ ITr wa ad7 n dp) := hid ⟨bel_on HG.out.2.1 ba, HG.out.1.below ba, HER.out.2.below ba⟩; have s2 : wa.cell? ⟨eb, eo + k, none⟩ = some (.int .i64 x) := keep_cell ba s1; clear ba s1)
                | (go_at_call 17; refine (XI.out _ HBA.out.2.2).mono ?_; rintro e wb ⟨fa, fc, rfl, ob, bb⟩; have HBB : Hid (Below w9.heap.size w9 wb ∧ TI wb tb n (fun j => upI z0 i q j + tkS dp y E j k) ∧ IR wb fa n F) := hid ⟨bel_on HBA.out.1 bb, HBA.out.2.1.below bb, ob.row⟩; have HFB : Hid (∀ g o, fa = some ⟨g, o, none⟩ → n ≠ 0 → g ≠ tb) := hid (fun g o e h0 => by rcases ob with h | ⟨g', cs, e1, e2, _⟩; exact absurd h h0; rw [e1] at e; cases e; have := HBA.out.2.1.lt; omega); clear bb ob s2))
              clear XS XI HBA HER
              go_loopw [22] (fun u wr => ∃ p : Nat, p ≤ n ∧ u = .int .i64 (p : Int) ∧ Hid (Below w9.heap.size w9 wr ∧ TI wr tb n (fun j => if j < p then upI z0 i q j + tkS dp y E j k + F j else upI z0 i q j + tkS dp y E j k) ∧ IR wr fa n F)) (fun u _ => n - (intOf u).toNat)
              case atStart => exact ⟨0, Nat.zero_le _, rfl, hid ⟨HBB.out.1, HBB.out.2.1.congr (fun j hj => by rw [if_neg (by omega)]), HBB.out.2.2⟩⟩
              case round =>
                clear HBB
                obtain ⟨p, hp, rfl, HH⟩ := hrel
                obtain ⟨wi, rfl⟩ : ∃ x, x = wr := ⟨wr, rfl⟩
                by_cases hpt : p < n
                · have hpt2 : (p : Int) < (n : Int) := by omega
                  obtain ⟨fb, fo, rfl, hfb⟩ := HH.out.2.2.addr (by omega)
                  have hne : fb ≠ tb := HFB.out _ _ rfl (by omega)
                  have c1 : wi.cell? ⟨tb, p, none⟩ = some (.int .i64 (upI z0 i q p + tkS dp y E p k)) := (HH.out.2.1.cell hpt).trans (by rw [if_neg (by omega)])
                  have c2 : wi.cell? ⟨fb, fo + p, none⟩ = some (.int .i64 (F p)) := HH.out.2.2.cell hpt
                  have c3 := HH.out.2.1.fr p
                  have d1 : wi.drew.cell? ⟨tb, p, none⟩ = some (.int .i64 (upI z0 i q p + tkS dp y E p k)) := c1
                  have d2 : wi.drew.cell? ⟨fb, fo + p, none⟩ = some (.int .i64 (F p)) := c2
                  have d3 : wi.drew.frozen? ⟨tb, p, none⟩ = false := c3
                  have g1 := HG.out.2.2 p
                  have g2 := HFQ.out p
                  have hw1 : IntKind.i64.wrap (upI z0 i q p + tkS dp y E p k + F p) = upI z0 i q p + tkS dp y E p k + F p := IntWalk.i64_in _ ⟨by omega, by omega⟩
                  have HN : Hid (Below w9.heap.size w9 (wi.drew.setCell ⟨tb, p, none⟩ (.int .i64 (upI z0 i q p + tkS dp y E p k + F p))) ∧ TI (wi.drew.setCell ⟨tb, p, none⟩ (.int .i64 (upI z0 i q p + tkS dp y E p k + F p))) tb n (fun j => if j < p + 1 then upI z0 i q j + tkS dp y E j k + F j else upI z0 i q j + tkS dp y E j k) ∧ IR (wi.drew.setCell ⟨tb, p, none⟩ (.int .i64 (upI z0 i q p + tkS dp y E p k + F p))) (some ⟨fb, fo, none⟩) n F) := hid ⟨HH.out.1.drew.setCell (by show w9.heap.size ≤ tb; rw [HTB.out]; exact Nat.le_refl _) _, (TI.set (W := wi.drew) HH.out.2.1 hpt _).congr (fun j hj => by
                      by_cases e : j = p
                      · subst e; rw [if_pos rfl, if_pos (by omega)]
                      · rw [if_neg e]
                        by_cases e2 : j < p
                        · rw [if_pos e2, if_pos (by omega)]
                        · rw [if_neg e2, if_neg (by omega)]), IR.other (w := wi.drew) HH.out.2.2 _ hne⟩
                  clear g1 g2 hfb
                  generalize F p = x1 at *
                  generalize upI z0 i q p + tkS dp y E p k = x2 at *
                  go_wp2
                  go_region
                  go_wp2
                  go_roundw
                  case rel => exact ⟨p + 1, by omega, by go_num, HN⟩
                  case measure => simp [intOf]; omega
                · obtain rfl : p = n := by omega
                  have lpp : ¬ (p : Int) < (p : Int) := by omega
                  have HN : Hid (TI wi tb p (fun j => upI z0 i q j + tkS dp y E j (k + 1)) ∧ Below w9.heap.size w9 wi ∧ ∀ j, 0 ≤ upI z0 i q j + tkS dp y E j (k + 1) ∧ upI z0 i q j + tkS dp y E j (k + 1) ≤ 1000000 * (((k + 1 : Nat) : Int) + 1)) := hid ⟨HH.out.2.1.congr (fun j hj => by rw [if_pos hj, HTK.out]; omega), HH.out.1, fun j => by
                    have g1 := HG.out.2.2 j
                    have g2 := HFQ.out j
                    rw [HTK.out]; omega⟩
                  clear HG HH
                  go_wp2
                  go_roundw
                  case rel => exact ⟨k + 1, by omega, by go_num, HN⟩
                  case measure => simp [intOf]; omega
            · obtain rfl : k = n := by omega
              have lkk : ¬ (k : Int) < (k : Int) := by omega
              have HZ : Hid (IR wo (some ⟨tb, 0, none⟩) k E ∧ IR wo ea k E ∧ Below w.heap.size w wo) := hid ⟨(HG.out.1.congr (fun j hj => (HSU.out j).symm)).row, HW9.out.2.2.below HG.out.2.1, bel_on HW9.out.1 HG.out.2.1⟩
              clear HG
              go_wp2_with (go_at_call 24; refine (sameInts_same _ _ _ _ _ E _ hn1 HZ.out.1 HZ.out.2.1).mono ?_; rintro e wz ⟨rfl, bz⟩; have HBZ : Hid (Below w.heap.size w wz) := hid (bel_on HZ.out.2.2 bz); clear bz)
              go_returns
              exact ⟨rfl, HBZ.out⟩

set_option maxRecDepth 100000 in
theorem lifted (os : Os) (started : os.Started) (H : Type) (enc : TypeId × Value → H) :
    ReturnsInHanded {} Try.checked os 4 .any (Rows.fnExplodedSpec.pre6 enc Try.prog Try.f4 Rows.fnExplodedRow.domain false) (Rows.fnExplodedSpec.post enc Try.prog Try.f4 false true false false) := by
  refine returnsInHanded_of_change (C := Try.checked) own started (by kernel_rfl) Try.func4
    (ChangeSpec.witness6 (enc := enc) (C := Try.checked) false ⟨#[], #[.slice none 0 0], []⟩ 8 (by kernel_rfl) (by kernel_rfl) (by kernel_rfl) (by kernel_rfl)) ?_
  intro W base args ds gs before hval0 hW hcnd _
  have hval : ∀ (j : Nat) t v, Try.f4.params[j]? = some t → args[j]? = some v → Value.okWide Try.prog W .any base t v := hval0
  have hW' := hW
  obtain ⟨p, q, hA0, hV, rfl, hfz, hnd⟩ := hW
  have hA : DataW.TrodAll enc Try.prog W 0 (fun _ => true) true Try.f4.params.toList args.toList ds p := hA0
  rw [Try.params4] at hA hval
  obtain ⟨v0, vs0, d0, ds0, p0, q0, hargs, rfl, rfl, h0, r0⟩ := trodAll_cons hA
  obtain ⟨rfl, rfl, rfl⟩ := trodAll_nil r0
  obtain rfl : args = #[v0] := by cases args; simp_all
  obtain ⟨rfl, rfl⟩ := trodVars_none hV
  have k0 := h0
  have lt0 : ∀ x ∈ p0, x.block < W.heap.size := by obtain ⟨m, hm⟩ := k0; exact DataW.trod_lt m _ _ _ hm
  obtain ⟨a0, len0, cap0, rfl⟩ := okWide_slice Try.underlying22 (hval 0 22 v0 rfl rfl)
  obtain ⟨z0, w0⟩ : ∃ zs, IsRow .u8 W a0 len0 cap0 zs := by
    obtain ⟨fuel, hf⟩ := h0
    rcases open_ints Try.underlying22 Try.underlying5 (by kernel_rfl) hf with ⟨hcs, _⟩ | ⟨x, l, c, zs, hcs, _, hl, hm, hz, _, hcell, hwz⟩
    · simp [Value.cells] at hcs
      obtain ⟨rfl, rfl, rfl⟩ := hcs
      exact ⟨[], .inl ⟨rfl, rfl, rfl, rfl⟩⟩
    · simp [Value.cells] at hcs
      obtain ⟨rfl, rfl, rfl⟩ := hcs
      exact ⟨zs, .inr ⟨_, rfl, hl, hm, by simpa using hz, hcell, hwz⟩⟩
  clear hA0 hval0
  refine (walk a0 len0 cap0 z0 W w0).mono fun e W' ⟨he, hg⟩ => ?_
  subst he
  exact ⟨_, rfl, _, _, _, [], _, [], hW', (trodAll_cons_mk (shut_bool Try.underlying4 _) trodAll_mk0), (trodAll_cons_mk (Below.trod laidOut (by kernel_rfl) (of_decide_eq_true (by kernel_rfl)) k0 hg lt0) trodAll_mk0), rfl, hg.frame _, fun h => by cases h⟩

theorem over : Rows.fnExplodedRow.holds Try.pinned (OpenSpec.ofChange Rows.fnExplodedSpec) :=
  OpenClaim.holds_of_wide 4 Try.f4 rfl rfl rfl rfl rfl rfl rfl ⟨rfl, rfl, rfl, rfl, rfl⟩ rfl rfl rfl rfl rfl (by kernel_rfl) Try.func4 (by kernel_rfl)
    (of_decide_eq_true (by kernel_rfl)) (by unfold Func.isWrapper; first | (rw [if_pos (by decide +kernel)]; kernel_rfl) | (rw [if_neg (by decide +kernel)]; exact ⟨rfl, rfl⟩))
    (fun os started H enc _ => lifted os started H enc)

end Go.Proofs.Ytmbdeafpfdeigaa.fnExploded

namespace Go.Proofs.Ytmbdeafpfdeigaa
theorem fnExploded_holds : Rows.FnExplodedSaid := fnExploded.over
#print axioms fnExploded_holds
end Go.Proofs.Ytmbdeafpfdeigaa
