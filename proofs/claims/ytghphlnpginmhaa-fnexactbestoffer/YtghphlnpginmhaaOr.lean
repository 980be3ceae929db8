/- BestOffer of the program and of the model. -/
import Derived.Test.YtghphlnpginmhaaOq
namespace Go.Proofs.Ytghphlnpginmhaa
open Go.ChangeShapes Go.WideShapes Go.ChangeAt Go.RowKit
set_option linter.unusedVariables false
set_option linter.unusedSimpArgs false

noncomputable def beF (len : Nat) (c : Nat → OF) (nq : Nat) (rs : Nat → R4) (curs : Int) (item : ByteArray) (qty day : Int) : Int × Int := if 60 < (len : Int) then (-1, 0) else bF (fun j => coB (c j) nq rs curs item qty day) (fun j => coV (c j) nq rs curs item qty day) len
theorem tabs_any (aq : Option Addr) (nq qcap : Nat) (rs : Nat → R4) (m : Int) (w : World) (h : (nq : Int) ≤ 1048576) (hr : RR w aq nq rs) :
    Calls Try.prog 64 #[.slice aq nq qcap, .int .i64 m] w fun e w' => ∃ cnt mp, e = .returned (.agg #[.int .i64 cnt, .map mp]) ∧ TbP w' cnt mp m nq rs ∧ Below w.heap.size w w' := by
  cases hv : Rt.ratesB m nq rs
  · refine (Rt.tables_none aq nq qcap rs m w h hr hv).mono ?_
    rintro e w' ⟨rfl, b⟩
    exact ⟨0, none, rfl, .inr ⟨hv, rfl, rfl⟩, b⟩
  · refine (Rt.tables_ok aq nq qcap rs m w h hr hv).mono ?_
    rintro e w' ⟨B, F, rfl, _, hG, b⟩
    exact ⟨m, some B, rfl, .inl ⟨hv, rfl, B, F, rfl, hG⟩, b⟩
set_option maxRecDepth 20000 in
set_option maxHeartbeats 8000000 in
theorem implBest_any (ad : Option Addr) (len cap : Nat) (c : Nat → OF) (aq : Option Addr) (nq qcap : Nat) (rs : Nat → R4) (curs : Int) (item : ByteArray) (qty day : Int) (w : World) (hl : (len : Int) ≤ 1048576) (hq : (nq : Int) ≤ 1048576) (hrn : ∀ j, j < len → ((c j).rn : Int) ≤ 1048576) (hz : ∀ j, (c j).who.size ≤ maxLen ∧ (c j).item.size ≤ maxLen) (hr : OFr w ad len c) (hqr : RR w aq nq rs) :
    Calls Try.prog 14 #[.slice ad len cap, .slice aq nq qcap, .int .i64 curs, .string item, .int .i64 qty, .int .i64 day] w fun e w' => e = .returned (.tuple #[.int .i64 (beF len c nq rs curs item qty day).1, .int .i64 (beF len c nq rs curs item qty day).2]) ∧ Below w.heap.size w w' := by
  have HR : Hid (OFr w ad len c) := hr
  have HQ : Hid (RR w aq nq rs) := hqr
  have HZ : Hid (∀ j, (c j).who.size ≤ maxLen ∧ (c j).item.size ≤ maxLen) := hz
  have HRN : Hid (∀ j, j < len → ((c j).rn : Int) ≤ 1048576) := hrn
  clear hr hqr hz hrn
  by_cases h6 : 60 < (len : Int)
  · have HV : Hid (beF len c nq rs curs item qty day = (-1, 0)) := hid (if_pos h6)
    go_enter Try.func14, Try.ntmps14
    go_wp2
    go_returns
    exact ⟨ret_ii (by rw [HV.out]) (by rw [HV.out]), Below.refl _ _⟩
  have h6b : (len : Int) ≤ 60 := by omega
  obtain ⟨R, hR⟩ : ∃ R, beF len c nq rs curs item qty day = R := ⟨_, rfl⟩
  have HLB : Hid (∀ (cnt : Int) (mp : Option Nat) (W : World), Below w.heap.size w W → TbP W cnt mp curs nq rs → Calls Try.prog 65 #[.slice ad len cap, .func (Fn.func 66) #[.agg #[.int .i64 cnt, .map mp, .int .i64 curs, .string item, .int .i64 qty, .int .i64 day]] #[]] W fun e w' => e = .returned (.tuple #[.int .i64 R.1, .int .i64 R.2]) ∧ Below W.heap.size W w') := hid (fun cnt mp W hW hT => by
    have := leastBy_any ad len cap c cnt mp nq rs curs item qty day W hl HRN.out HZ.out (HR.out.below hW) hT
    rw [← hR, show beF len c nq rs curs item qty day = bF (fun j => coB (c j) nq rs curs item qty day) (fun j => coV (c j) nq rs curs item qty day) len from if_neg h6]
    exact this)
  rw [hR]
  clear hR h6
  go_enter Try.func14, Try.ntmps14
  go_wp2_with (first
    | (go_at_call 64; refine (tabs_any aq nq qcap rs curs w hq HQ.out).mono ?_; rintro e w1 ⟨cnt, mp, rfl, hT, b1⟩; have HT1 : Hid (TbP w1 cnt mp curs nq rs) := hT; have HB1 : Hid (Below w.heap.size w w1) := b1; clear hT b1)
    | (go_at_call 65; go_loud (refine (HLB.out cnt mp _ (HB1.out.alloc HB1.out.size _) (HT1.out.below ((Below.refl _ _).alloc (Nat.le_refl _) _))).mono ?_; rintro e w2 ⟨rfl, b2⟩; have HB2 : Hid (Below w.heap.size w w2) := bel_on (HB1.out.alloc HB1.out.size _) b2; clear b2)))
  go_returns
  exact ⟨rfl, HB2.out⟩

set_option maxRecDepth 20000 in
set_option maxHeartbeats 8000000 in
theorem specBest_any (ad : Option Addr) (len cap : Nat) (c : Nat → OF) (aq : Option Addr) (nq qcap : Nat) (rs : Nat → R4) (curs : Int) (item : ByteArray) (qty day : Int) (w : World) (hl : (len : Int) ≤ 1048576) (hq : (nq : Int) ≤ 1048576) (hrn : ∀ j, j < len → ((c j).rn : Int) ≤ 1048576) (hz : ∀ j, (c j).who.size ≤ maxLen ∧ (c j).item.size ≤ maxLen) (hr : OFr w ad len c) (hqr : RR w aq nq rs) :
    Calls Try.prog 15 #[.slice ad len cap, .slice aq nq qcap, .int .i64 curs, .string item, .int .i64 qty, .int .i64 day] w fun e w' => e = .returned (.tuple #[.int .i64 (beF len c nq rs curs item qty day).1, .int .i64 (beF len c nq rs curs item qty day).2]) ∧ Below w.heap.size w w' := by
  have HR : Hid (OFr w ad len c) := hr
  have HQ : Hid (RR w aq nq rs) := hqr
  have HZ : Hid (∀ j, (c j).who.size ≤ maxLen ∧ (c j).item.size ≤ maxLen) := hz
  have HRN : Hid (∀ j, j < len → ((c j).rn : Int) ≤ 1048576) := hrn
  clear hr hqr hz hrn
  by_cases h6 : 60 < (len : Int)
  · have HV : Hid (beF len c nq rs curs item qty day = (-1, 0)) := hid (if_pos h6)
    go_enter Try.func15, Try.ntmps15
    go_wp2
    go_returns
    exact ⟨ret_ii (by rw [HV.out]) (by rw [HV.out]), Below.refl _ _⟩
  have h6b : (len : Int) ≤ 60 := by omega
  rw [show beF len c nq rs curs item qty day = bF (fun j => coB (c j) nq rs curs item qty day) (fun j => coV (c j) nq rs curs item qty day) len from if_neg h6]
  obtain ⟨BB, hBB⟩ : ∃ B, (fun j => coB (c j) nq rs curs item qty day) = B := ⟨_, rfl⟩
  obtain ⟨VV, hVV⟩ : ∃ V, (fun j => coV (c j) nq rs curs item qty day) = V := ⟨_, rfl⟩
  have HBB : Hid (∀ j, coB (c j) nq rs curs item qty day = BB j) := hid (fun j => by rw [← hBB])
  have HVV : Hid (∀ j, coV (c j) nq rs curs item qty day = VV j) := hid (fun j => by rw [← hVV])
  rw [hBB, hVV]
  clear hBB hVV h6
  go_enter Try.func15, Try.ntmps15
  go_wp2
  go_loopw [14, 15, 16] (fun p l i wr => ∃ (k : Nat) (P V : Int), k ≤ len ∧ i = .int .i64 (k : Int) ∧ p = .int .i64 P ∧ l = .int .i64 V ∧ Hid (bF BB VV k = (P, V)) ∧ Hid (Below w.heap.size w wr)) (fun _ _ i _ => len - (intOf i).toNat)
  case atStart => exact ⟨0, -1, 0, Nat.zero_le _, rfl, rfl, rfl, rfl, Below.refl _ _⟩
  case round =>
    obtain ⟨k, P, V, hk, rfl, rfl, rfl, HP, HB⟩ := hrel
    obtain ⟨wo, rfl⟩ : ∃ x, x = wr := ⟨wr, rfl⟩
    by_cases hlt : k < len
    · have hlt2 : (k : Int) < (len : Int) := by omega
      obtain ⟨kb, off, rfl, hkb⟩ := HR.out.addr (by omega)
      obtain ⟨ra, rc, hrc, c0, c1, c2, c3, c4, c5, c6, hsr⟩ := (HR.out.below HB.out).cell hlt
      have hzk := HZ.out k
      have hnk := HRN.out k hlt
      have hBk := HBB.out k
      have hVk := HVV.out k
      obtain ⟨ck, hck⟩ : ∃ x, c k = x := ⟨_, rfl⟩
      rw [hck] at c0 c1 c2 c3 c4 c5 c6 hsr hzk hnk hBk hVk
      obtain ⟨who, it, cur, fst, lst, lea, n, z⟩ := ck
      simp only at c0 c1 c2 c3 c4 c5 c6 hsr hzk hnk
      have HBk : Hid (coB ⟨who, it, cur, fst, lst, lea, n, z⟩ nq rs curs item qty day = BB k) := hBk
      have HVk : Hid (coV ⟨who, it, cur, fst, lst, lea, n, z⟩ nq rs curs item qty day = VV k) := hVk
      have hPg := bF_ge BB VV k
      rw [HP.out] at hPg
      simp only at hPg
      clear hck hBk hVk
      obtain ⟨PV, hP⟩ : ∃ P, opV ⟨who, it, cur, fst, lst, lea, n, z⟩ curs qty = P := ⟨_, rfl⟩
      cases hk2 : opB ⟨who, it, cur, fst, lst, lea, n, z⟩ curs qty
      · have HBF : Hid (BB k = false) := hid (by rw [← HBk.out]; exact (co_no (by simp [tkB, hk2])).2)
        have HN : Hid (bF BB VV (k + 1) = (P, V)) := hid (by rw [bF_f (fun h => by have := h.1; rw [HBF.out] at this; cases this)]; exact HP.out)
        have HPR : Hid (∀ W, Below wo.heap.size wo W → Calls Try.prog 26 #[.agg #[.string who, .string it, .int .i64 cur, .int .i64 fst, .int .i64 lst, .int .i64 lea, .slice ra n rc], .int .i64 curs, .int .i64 qty] W fun e w' => e = .returned (.tuple #[.int .i64 PV, .bool false]) ∧ Below W.heap.size W w') := hid (fun W hW => by rw [← hP, ← hk2]; exact specPrice_any who it cur fst lst lea ra n rc z curs qty W hzk.1 hzk.2 hnk (hsr.below hW))
        clear hsr hzk hnk hP hk2
        go_wp2_with (first | (go_at_call 26; refine (HPR.out _ (by go_grown)).mono ?_; rintro e w1 ⟨rfl, b1⟩; obtain ⟨C1, B1⟩ := box_bl b1; have y0 := (C1.cell 0).trans rfl; have y1 := (C1.cell 1).trans rfl; have y2 := (C1.cell 2).trans rfl; have y3 := (C1.cell 3).trans rfl; have y4 := (C1.cell 4).trans rfl; have y5 := (C1.cell 5).trans rfl; have y6 := (C1.cell 6).trans rfl; have HO1 : Hid (CB w1 wo.heap.size #[.string who, .string it, .int .i64 cur, .int .i64 fst, .int .i64 lst, .int .i64 lea, .slice ra n rc] 34) := C1; have HB1 : Hid (Below w.heap.size w w1) := bel_on HB.out B1; clear C1 B1 b1) | (go_at_call 67; refine (l1In_any _ _ _ _).mono ?_; rintro e w2 ⟨rfl, ew⟩; replace ew := ew.symm; subst ew) | (go_at_call 68; go_loud (refine (HCV.out _ (HQ.out.below HB1.out)).mono ?_; rintro e w3 ⟨rfl, b3⟩; have HB3 : Hid (Below w.heap.size w w3) := bel_on HB1.out b3; clear b3)))
        go_roundw
        case rel => exact ⟨k + 1, P, V, by omega, by go_num, rfl, rfl, HN, HB1⟩
        case measure => simp [intOf]; omega
      have HPR : Hid (∀ W, Below wo.heap.size wo W → Calls Try.prog 26 #[.agg #[.string who, .string it, .int .i64 cur, .int .i64 fst, .int .i64 lst, .int .i64 lea, .slice ra n rc], .int .i64 curs, .int .i64 qty] W fun e w' => e = .returned (.tuple #[.int .i64 PV, .bool true]) ∧ Below W.heap.size W w') := hid (fun W hW => by rw [← hP, ← hk2]; exact specPrice_any who it cur fst lst lea ra n rc z curs qty W hzk.1 hzk.2 hnk (hsr.below hW))
      have HPV : Hid (opV ⟨who, it, cur, fst, lst, lea, n, z⟩ curs qty = PV) := hP
      have HK : Hid (opB ⟨who, it, cur, fst, lst, lea, n, z⟩ curs qty = true) := hk2
      clear hsr hzk hnk hP hk2
      by_cases hi : it = item
      · have li := lists_t hi
        cases hd : inB day fst lst
        · have HBF : Hid (BB k = false) := hid (by rw [← HBk.out]; exact (co_no (by simp [tkB, hd])).2)
          have HN : Hid (bF BB VV (k + 1) = (P, V)) := hid (by rw [bF_f (fun h => by have := h.1; rw [HBF.out] at this; cases this)]; exact HP.out)
          clear hi
          go_wp2_with (first | (go_at_call 26; refine (HPR.out _ (by go_grown)).mono ?_; rintro e w1 ⟨rfl, b1⟩; obtain ⟨C1, B1⟩ := box_bl b1; have y0 := (C1.cell 0).trans rfl; have y1 := (C1.cell 1).trans rfl; have y2 := (C1.cell 2).trans rfl; have y3 := (C1.cell 3).trans rfl; have y4 := (C1.cell 4).trans rfl; have y5 := (C1.cell 5).trans rfl; have y6 := (C1.cell 6).trans rfl; have HO1 : Hid (CB w1 wo.heap.size #[.string who, .string it, .int .i64 cur, .int .i64 fst, .int .i64 lst, .int .i64 lea, .slice ra n rc] 34) := C1; have HB1 : Hid (Below w.heap.size w w1) := bel_on HB.out B1; clear C1 B1 b1) | (go_at_call 67; refine (l1In_any _ _ _ _).mono ?_; rintro e w2 ⟨rfl, ew⟩; replace ew := ew.symm; subst ew) | (go_at_call 68; go_loud (refine (HCV.out _ (HQ.out.below HB1.out)).mono ?_; rintro e w3 ⟨rfl, b3⟩; have HB3 : Hid (Below w.heap.size w w3) := bel_on HB1.out b3; clear b3)))
          go_roundw
          case rel => exact ⟨k + 1, P, V, by omega, by go_num, rfl, rfl, HN, HB1⟩
          case measure => simp [intOf]; omega
        have HTK : Hid (tkB ⟨who, it, cur, fst, lst, lea, n, z⟩ curs item qty day = true) := hid (by unfold tkB; rw [HK.out]; simp [hd, hi])
        have HE : Hid (coO ⟨who, it, cur, fst, lst, lea, n, z⟩ nq rs curs qty day = Rt.cvO curs nq rs PV cur 0 day) := hid (by unfold coO; rw [HPV.out])
        obtain ⟨v, hv⟩ : ∃ v, Rt.cN (Rt.cvO curs nq rs PV cur 0 day) = v := ⟨_, rfl⟩
        obtain ⟨b, hb⟩ : ∃ b, Rt.cB (Rt.cvO curs nq rs PV cur 0 day) = b := ⟨_, rfl⟩
        have Hb : Hid (BB k = b) := hid (by rw [← HBk.out, (co_yes HTK.out).2, HE.out, hb])
        have Hv : Hid (VV k = v) := hid (by rw [← HVk.out, (co_yes HTK.out).1, HE.out, hv])
        have HCV : Hid (∀ W, RR W aq nq rs → Calls Try.prog 68 #[.slice aq nq qcap, .int .i64 curs, .int .i64 PV, .int .i64 cur, .int .i64 0, .int .i64 day] W fun e w' => e = .returned (.tuple #[.int .i64 v, .bool b]) ∧ Below W.heap.size W w') := hid (fun W hW => by rw [← hv, ← hb]; exact Rt.specConvert_any aq nq qcap rs curs PV cur 0 day W hq hW)
        clear hi hv hb
        cases b
        · have HBF : Hid (BB k = false) := Hb
          have HN : Hid (bF BB VV (k + 1) = (P, V)) := hid (by rw [bF_f (fun h => by have := h.1; rw [HBF.out] at this; cases this)]; exact HP.out)
          go_wp2_with (first | (go_at_call 26; refine (HPR.out _ (by go_grown)).mono ?_; rintro e w1 ⟨rfl, b1⟩; obtain ⟨C1, B1⟩ := box_bl b1; have y0 := (C1.cell 0).trans rfl; have y1 := (C1.cell 1).trans rfl; have y2 := (C1.cell 2).trans rfl; have y3 := (C1.cell 3).trans rfl; have y4 := (C1.cell 4).trans rfl; have y5 := (C1.cell 5).trans rfl; have y6 := (C1.cell 6).trans rfl; have HO1 : Hid (CB w1 wo.heap.size #[.string who, .string it, .int .i64 cur, .int .i64 fst, .int .i64 lst, .int .i64 lea, .slice ra n rc] 34) := C1; have HB1 : Hid (Below w.heap.size w w1) := bel_on HB.out B1; clear C1 B1 b1) | (go_at_call 67; refine (l1In_any _ _ _ _).mono ?_; rintro e w2 ⟨rfl, ew⟩; replace ew := ew.symm; subst ew) | (go_at_call 68; go_loud (refine (HCV.out _ (HQ.out.below HB1.out)).mono ?_; rintro e w3 ⟨rfl, b3⟩; have HB3 : Hid (Below w.heap.size w w3) := bel_on HB1.out b3; clear b3)))
          go_roundw
          case rel => exact ⟨k + 1, P, V, by omega, by go_num, rfl, rfl, HN, HB3⟩
          case measure => simp [intOf]; omega
        · by_cases h1 : P < 0
          · have HN : Hid (bF BB VV (k + 1) = ((k : Int), v)) := hid (by rw [bF_t Hb.out (.inl (by rw [HP.out]; simp only; omega)), Hv.out])
            go_wp2_with (first | (go_at_call 26; refine (HPR.out _ (by go_grown)).mono ?_; rintro e w1 ⟨rfl, b1⟩; obtain ⟨C1, B1⟩ := box_bl b1; have y0 := (C1.cell 0).trans rfl; have y1 := (C1.cell 1).trans rfl; have y2 := (C1.cell 2).trans rfl; have y3 := (C1.cell 3).trans rfl; have y4 := (C1.cell 4).trans rfl; have y5 := (C1.cell 5).trans rfl; have y6 := (C1.cell 6).trans rfl; have HO1 : Hid (CB w1 wo.heap.size #[.string who, .string it, .int .i64 cur, .int .i64 fst, .int .i64 lst, .int .i64 lea, .slice ra n rc] 34) := C1; have HB1 : Hid (Below w.heap.size w w1) := bel_on HB.out B1; clear C1 B1 b1) | (go_at_call 67; refine (l1In_any _ _ _ _).mono ?_; rintro e w2 ⟨rfl, ew⟩; replace ew := ew.symm; subst ew) | (go_at_call 68; go_loud (refine (HCV.out _ (HQ.out.below HB1.out)).mono ?_; rintro e w3 ⟨rfl, b3⟩; have HB3 : Hid (Below w.heap.size w w3) := bel_on HB1.out b3; clear b3)))
            go_roundw
            case rel => exact ⟨k + 1, (k : Int), v, by omega, by go_num, rfl, rfl, HN, HB3⟩
            case measure => simp [intOf]; omega
          · by_cases h2 : v < V
            · have HN : Hid (bF BB VV (k + 1) = ((k : Int), v)) := hid (by rw [bF_t Hb.out (.inr (by rw [HP.out, Hv.out]; exact h2)), Hv.out])
              go_wp2_with (first | (go_at_call 26; refine (HPR.out _ (by go_grown)).mono ?_; rintro e w1 ⟨rfl, b1⟩; obtain ⟨C1, B1⟩ := box_bl b1; have y0 := (C1.cell 0).trans rfl; have y1 := (C1.cell 1).trans rfl; have y2 := (C1.cell 2).trans rfl; have y3 := (C1.cell 3).trans rfl; have y4 := (C1.cell 4).trans rfl; have y5 := (C1.cell 5).trans rfl; have y6 := (C1.cell 6).trans rfl; have HO1 : Hid (CB w1 wo.heap.size #[.string who, .string it, .int .i64 cur, .int .i64 fst, .int .i64 lst, .int .i64 lea, .slice ra n rc] 34) := C1; have HB1 : Hid (Below w.heap.size w w1) := bel_on HB.out B1; clear C1 B1 b1) | (go_at_call 67; refine (l1In_any _ _ _ _).mono ?_; rintro e w2 ⟨rfl, ew⟩; replace ew := ew.symm; subst ew) | (go_at_call 68; go_loud (refine (HCV.out _ (HQ.out.below HB1.out)).mono ?_; rintro e w3 ⟨rfl, b3⟩; have HB3 : Hid (Below w.heap.size w w3) := bel_on HB1.out b3; clear b3)))
              go_roundw
              case rel => exact ⟨k + 1, (k : Int), v, by omega, by go_num, rfl, rfl, HN, HB3⟩
              case measure => simp [intOf]; omega
            · have HN : Hid (bF BB VV (k + 1) = (P, V)) := hid (by
                rw [bF_f (fun h => by rcases h.2 with q | q <;> rw [HP.out] at q; (simp only at q; omega); (rw [Hv.out] at q; exact h2 q))]; exact HP.out)
              go_wp2_with (first | (go_at_call 26; refine (HPR.out _ (by go_grown)).mono ?_; rintro e w1 ⟨rfl, b1⟩; obtain ⟨C1, B1⟩ := box_bl b1; have y0 := (C1.cell 0).trans rfl; have y1 := (C1.cell 1).trans rfl; have y2 := (C1.cell 2).trans rfl; have y3 := (C1.cell 3).trans rfl; have y4 := (C1.cell 4).trans rfl; have y5 := (C1.cell 5).trans rfl; have y6 := (C1.cell 6).trans rfl; have HO1 : Hid (CB w1 wo.heap.size #[.string who, .string it, .int .i64 cur, .int .i64 fst, .int .i64 lst, .int .i64 lea, .slice ra n rc] 34) := C1; have HB1 : Hid (Below w.heap.size w w1) := bel_on HB.out B1; clear C1 B1 b1) | (go_at_call 67; refine (l1In_any _ _ _ _).mono ?_; rintro e w2 ⟨rfl, ew⟩; replace ew := ew.symm; subst ew) | (go_at_call 68; go_loud (refine (HCV.out _ (HQ.out.below HB1.out)).mono ?_; rintro e w3 ⟨rfl, b3⟩; have HB3 : Hid (Below w.heap.size w w3) := bel_on HB1.out b3; clear b3)))
              go_roundw
              case rel => exact ⟨k + 1, P, V, by omega, by go_num, rfl, rfl, HN, HB3⟩
              case measure => simp [intOf]; omega
      · have li := lists_f hi
        have HBF : Hid (BB k = false) := hid (by rw [← HBk.out]; exact (co_no (by simp [tkB, hi])).2)
        have HN : Hid (bF BB VV (k + 1) = (P, V)) := hid (by rw [bF_f (fun h => by have := h.1; rw [HBF.out] at this; cases this)]; exact HP.out)
        clear hi
        go_wp2_with (first | (go_at_call 26; refine (HPR.out _ (by go_grown)).mono ?_; rintro e w1 ⟨rfl, b1⟩; obtain ⟨C1, B1⟩ := box_bl b1; have y0 := (C1.cell 0).trans rfl; have y1 := (C1.cell 1).trans rfl; have y2 := (C1.cell 2).trans rfl; have y3 := (C1.cell 3).trans rfl; have y4 := (C1.cell 4).trans rfl; have y5 := (C1.cell 5).trans rfl; have y6 := (C1.cell 6).trans rfl; have HO1 : Hid (CB w1 wo.heap.size #[.string who, .string it, .int .i64 cur, .int .i64 fst, .int .i64 lst, .int .i64 lea, .slice ra n rc] 34) := C1; have HB1 : Hid (Below w.heap.size w w1) := bel_on HB.out B1; clear C1 B1 b1) | (go_at_call 67; refine (l1In_any _ _ _ _).mono ?_; rintro e w2 ⟨rfl, ew⟩; replace ew := ew.symm; subst ew) | (go_at_call 68; go_loud (refine (HCV.out _ (HQ.out.below HB1.out)).mono ?_; rintro e w3 ⟨rfl, b3⟩; have HB3 : Hid (Below w.heap.size w w3) := bel_on HB1.out b3; clear b3)))
        go_roundw
        case rel => exact ⟨k + 1, P, V, by omega, by go_num, rfl, rfl, HN, HB1⟩
        case measure => simp [intOf]; omega
    · obtain rfl : k = len := by omega
      have lkk : ¬ (k : Int) < (k : Int) := by omega
      go_wp2
      go_returns
      exact ⟨ret_ii (by rw [HP.out]) (by rw [HP.out]), HB.out⟩

end Go.Proofs.Ytghphlnpginmhaa
