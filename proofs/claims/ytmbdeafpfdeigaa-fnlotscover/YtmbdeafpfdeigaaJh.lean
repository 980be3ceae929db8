/- ItemsOk of the model answers isB. -/
import Derived.Test.YtmbdeafpfdeigaaJg
namespace Go.Proofs.Ytmbdeafpfdeigaa
open Go Go.ChangeShapes Go.WideShapes Go.ChangeAt Go.RowKit
set_option linter.unusedVariables false
set_option linter.unusedSimpArgs false

theorem lists_t {s t : ByteArray} (h : s = t) : (s.toList == t.toList) = true := by subst h; simp
theorem lists_f {s t : ByteArray} (h : s ≠ t) : (s.toList == t.toList) = false := by
  cases g : (s.toList == t.toList)
  · rfl
  simp only [beq_iff_eq, ByteArray.toList_eq] at g
  exact absurd (by cases s; cases t; simpa using g) h

set_option maxRecDepth 20000 in
set_option maxHeartbeats 8000000 in
theorem specItems_any (ad : Option Addr) (n cap : Nat) (c : Nat → IT) (w : World) (h : (n : Int) ≤ 1048576) (hz : IZ n c) (hr : ITr w ad n c) :
    Calls Try.prog 31 #[.slice ad n cap] w fun e w' => e = .returned (.bool (isB n c)) ∧ Below w.heap.size w w' := by
  have HR : Hid (ITr w ad n c) := hr
  have HZ : Hid (IZ n c) := hz
  clear hr hz
  cases h0 : inB (n : Int) 1 60
  · have HV : Hid (isB n c = false) := isB_f fun H => inB_f h0 (by have := H.1; omega)
    go_enter Try.func31, Try.ntmps31
    go_wp2_with (go_at_call 67; refine (l1In_eq _ _ _ _ _ h0).mono ?_; rintro e w1 ⟨rfl, ew⟩; replace ew := ew.symm; subst ew)
    go_returns
    exact ⟨ret_bool HV.out.symm, Below.refl _ _⟩
  have h60 := inB_t h0
  go_enter Try.func31, Try.ntmps31
  go_wp2_with (go_at_call 67; refine (l1In_eq _ _ _ _ _ h0).mono ?_; rintro e w1 ⟨rfl, ew⟩; replace ew := ew.symm; subst ew)
  clear h0
  go_loopw [4] (fun i wr => ∃ (k : Nat), k ≤ n ∧ i = .int .i64 (k : Int) ∧ Hid ((∀ j, j < k → itB (j : Int) (n : Int) (c j) = true) ∧ DisP k c ∧ Below w.heap.size w wr)) (fun i _ => n - (intOf i).toNat)
  case atStart => exact ⟨0, Nat.zero_le _, rfl, fun j hj => by omega, fun i j _ hj => by omega, Below.refl _ _⟩
  case round =>
    obtain ⟨k, hk, rfl, HH⟩ := hrel
    obtain ⟨wo, rfl⟩ : ∃ x, x = wr := ⟨wr, rfl⟩
    by_cases hlt : k < n
    · have hlt2 : (k : Int) < (n : Int) := by omega
      have HOB : Hid (OnB (k : Int) (n : Int)) := hid ⟨by omega, by omega, by omega, by omega⟩
      obtain ⟨kb, off, rfl, hkb⟩ := HR.out.addr (by omega)
      have HRC : Hid (∀ W, Below w.heap.size w W → ∀ j, j < n → W.cell? ⟨kb, off + j * 5, none⟩ = some (.string (c j).name)) := hid (fun W b j hj => by obtain ⟨_, _, _, _, _, _, q, _⟩ := (HR.out.below b).cell hj; exact q)
      obtain ⟨ra, rc, sa, sc, _, _, c0, c1, c2, c3, c4, r5, r6⟩ := HR.out.cell hlt
      replace c0 := keep_cell HH.out.2.2 c0
      replace c1 := keep_cell HH.out.2.2 c1
      replace c2 := keep_cell HH.out.2.2 c2
      replace c3 := keep_cell HH.out.2.2 c3
      replace c4 := keep_cell HH.out.2.2 c4
      have hzk := HZ.out k hlt
      have HIF : Hid (itB (k : Int) (n : Int) (c k) = false → isB n c = false) := hid (fun q => isB_f fun H => by have := H.2.1 k hlt; rw [q] at this; cases this)
      have HDF : Hid (∀ j, j < k → (c j).name = (c k).name → isB n c = false) := hid (fun j hj q => isB_f fun H => H.2.2.1 j k hj hlt q)
      have HNX : Hid (itB (k : Int) (n : Int) (c k) = true → (∀ j, j < k → (c j).name ≠ (c k).name) → (∀ j, j < k + 1 → itB (j : Int) (n : Int) (c j) = true) ∧ DisP (k + 1) c) := hid (fun q1 q2 => ⟨fun j hj => by
        by_cases e : j = k
        · subst e; exact q1
        · exact HH.out.1 j (by omega), fun i j hij hj => by
        by_cases e : j = k
        · subst e; exact q2 i hij
        · exact HH.out.2.1 i j hij (by omega)⟩)
      have HBo : Hid (Below w.heap.size w wo) := HH.out.2.2
      clear HH
      obtain ⟨x, hx⟩ : ∃ x, c k = x := ⟨_, rfl⟩
      rw [hx] at c0 c1 c2 c3 c4 r5 r6 hzk HIF HDF HNX
      clear hx
      obtain ⟨nm, ba, ph, rn, rz, sn, sz⟩ := x
      have HNZ : Hid (nm.size ≤ maxLen) := hzk.1
      have HR5 : Hid (PAr w ra rn rz) := r5
      have HR6 : Hid (PAr w sa sn sz) := r6
      simp only at c0 c1 c2 c3 c4 hzk HDF
      obtain ⟨_, hrn, hsn⟩ := hzk
      clear r5 r6
      have HBX : Hid (CB (wo.alloc (.cells #[.string nm, .int .i64 ba, .bool ph, .slice ra rn rc, .slice sa sn sc] 31 (0, 0))) wo.heap.size #[.string nm, .int .i64 ba, .bool ph, .slice ra rn rc, .slice sa sn sc] 31 ∧ Below w.heap.size w (wo.alloc (.cells #[.string nm, .int .i64 ba, .bool ph, .slice ra rn rc, .slice sa sn sc] 31 (0, 0)))) := hid ⟨CB.new _ _, bel_on HBo.out ((Below.refl _ _).alloc (Nat.le_refl _) _)⟩

      cases h1 : nameB nm
      · have HV : Hid (isB n c = false) := hid (HIF.out (by simp [itB, h1]))
        clear HIF HDF HNX
        go_wp2_with (first | (go_at_call 70; refine (specName_eq _ _ _ HNZ.out h1).mono ?_; rintro e w1 ⟨rfl, ew⟩; replace ew := ew.symm; subst ew) | (go_at_call 67; refine (l1In_eq _ _ _ _ _ h2).mono ?_; rintro e w1 ⟨rfl, ew⟩; replace ew := ew.symm; subst ew))
        go_returns
        exact ⟨ret_bool HV.out.symm, HBX.out.2⟩
      cases h2 : inB ba 1 1000000
      · have HV : Hid (isB n c = false) := hid (HIF.out (by simp [itB, h1, h2]))
        clear HIF HDF HNX
        go_wp2_with (first | (go_at_call 70; refine (specName_eq _ _ _ HNZ.out h1).mono ?_; rintro e w1 ⟨rfl, ew⟩; replace ew := ew.symm; subst ew) | (go_at_call 67; refine (l1In_eq _ _ _ _ _ h2).mono ?_; rintro e w1 ⟨rfl, ew⟩; replace ew := ew.symm; subst ew))
        go_returns
        exact ⟨ret_bool HV.out.symm, HBX.out.2⟩
      by_cases h3 : (30 : Int) < (rn : Int)
      · have g3 : decide ((30 : Int) < (rn : Int)) = true := decide_eq_true h3
        have hap : apB (paB (k : Int) (n : Int)) rn rz = false := apB_f fun H => by have := H.1; omega
        have HV : Hid (isB n c = false) := hid (HIF.out (by simp [itB, hap]))
        clear HIF HDF HNX
        go_wp2_with (first | (go_at_call 70; refine (specName_eq _ _ _ HNZ.out h1).mono ?_; rintro e w1 ⟨rfl, ew⟩; replace ew := ew.symm; subst ew) | (go_at_call 67; refine (l1In_eq _ _ _ _ _ h2).mono ?_; rintro e w1 ⟨rfl, ew⟩; replace ew := ew.symm; subst ew))
        go_returns
        exact ⟨ret_bool HV.out.symm, HBX.out.2⟩
      have g3 : decide ((30 : Int) < (rn : Int)) = false := decide_eq_false h3
      by_cases h4 : (30 : Int) < (sn : Int)
      · have g4 : decide ((30 : Int) < (sn : Int)) = true := decide_eq_true h4
        have hap : apB (beB (k : Int) (n : Int)) sn sz = false := apB_f fun H => by have := H.1; omega
        have HV : Hid (isB n c = false) := hid (HIF.out (by simp [itB, hap]))
        clear HIF HDF HNX
        go_wp2_with (first | (go_at_call 70; refine (specName_eq _ _ _ HNZ.out h1).mono ?_; rintro e w1 ⟨rfl, ew⟩; replace ew := ew.symm; subst ew) | (go_at_call 67; refine (l1In_eq _ _ _ _ _ h2).mono ?_; rintro e w1 ⟨rfl, ew⟩; replace ew := ew.symm; subst ew))
        go_returns
        exact ⟨ret_bool HV.out.symm, HBX.out.2⟩
      have g4 : decide ((30 : Int) < (sn : Int)) = false := decide_eq_false h4
      cases h5 : phB ph rn sn
      · obtain ⟨rfl, hq⟩ : ph = true ∧ (rn = 0 ∨ ¬ sn = 0) := by
          cases ph
          · simp [phB] at h5
          · refine ⟨rfl, ?_⟩
            simp [phB] at h5
            omega
        have hif : itB (k : Int) (n : Int) ⟨nm, ba, true, rn, rz, sn, sz⟩ = false := by simp only [itB, h1, h2, h5]; rfl
        by_cases q0 : rn = 0
        · have g0 : ((rn : Int) == 0) = true := by simp [q0]
          clear h5 hq q0
          have HV : Hid (isB n c = false) := hid (HIF.out (by exact hif))
          clear HIF HDF HNX
          go_wp2_with (first | (go_at_call 70; refine (specName_eq _ _ _ HNZ.out h1).mono ?_; rintro e w1 ⟨rfl, ew⟩; replace ew := ew.symm; subst ew) | (go_at_call 67; refine (l1In_eq _ _ _ _ _ h2).mono ?_; rintro e w1 ⟨rfl, ew⟩; replace ew := ew.symm; subst ew))
          go_returns
          exact ⟨ret_bool HV.out.symm, HBX.out.2⟩
        · have g0 : ((rn : Int) == 0) = false := by simp [q0]
          have g1 : (0 : Int) < (sn : Int) := by omega
          have g2 : decide ((0 : Int) < (sn : Int)) = true := decide_eq_true g1
          clear h5 hq q0
          have HV : Hid (isB n c = false) := hid (HIF.out (by exact hif))
          clear HIF HDF HNX
          go_wp2_with (first | (go_at_call 70; refine (specName_eq _ _ _ HNZ.out h1).mono ?_; rintro e w1 ⟨rfl, ew⟩; replace ew := ew.symm; subst ew) | (go_at_call 67; refine (l1In_eq _ _ _ _ _ h2).mono ?_; rintro e w1 ⟨rfl, ew⟩; replace ew := ew.symm; subst ew))
          go_returns
          exact ⟨ret_bool HV.out.symm, HBX.out.2⟩
      have HIB : Hid (itB (k : Int) (n : Int) ⟨nm, ba, ph, rn, rz, sn, sz⟩ = (apB (paB (k : Int) (n : Int)) rn rz && apB (beB (k : Int) (n : Int)) sn sz)) := hid (by simp [itB, h1, h2, h5])
      have hph : ph = false ∨ (((rn : Int) == 0) = false ∧ ¬ (0 : Int) < (sn : Int)) := by
        cases ph
        · exact .inl rfl
        · right
          simp [phB] at h5
          exact ⟨by simp; omega, by omega⟩
      have HDH : Hid (∀ (P : Prop), (ph = false → P) → (((rn : Int) == 0) = false → ¬ (0 : Int) < (sn : Int) → P) → P) := hid (fun P a b => hph.elim a (fun q => b q.1 q.2))
      clear h5 hph
      cases ph
      · clear HDH
        go_wp2_with (first | (go_at_call 70; refine (specName_eq _ _ _ HNZ.out h1).mono ?_; rintro e w1 ⟨rfl, ew⟩; replace ew := ew.symm; subst ew) | (go_at_call 67; refine (l1In_eq _ _ _ _ _ h2).mono ?_; rintro e w1 ⟨rfl, ew⟩; replace ew := ew.symm; subst ew))

        have HL0 : Hid ((∀ j, j < 0 → (c j).name ≠ nm) ∧ CB (wo.alloc (.cells #[.string nm, .int .i64 ba, .bool false, .slice ra rn rc, .slice sa sn sc] 31 (0, 0))) wo.heap.size #[.string nm, .int .i64 ba, .bool false, .slice ra rn rc, .slice sa sn sc] 31 ∧ Below w.heap.size w (wo.alloc (.cells #[.string nm, .int .i64 ba, .bool false, .slice ra rn rc, .slice sa sn sc] 31 (0, 0)))) := hid ⟨fun j hj => by omega, HBX.out⟩
        have hNBw : w.heap.size ≤ wo.heap.size := HBo.out.size
        clear HBX c0 c1 c2 c3 c4
        obtain ⟨NB, hNB⟩ : ∃ N, wo.heap.size = N := ⟨_, rfl⟩
        rw [hNB] at HL0 hNBw ⊢
        clear hNB
        go_loopw [6] (fun i wr => ∃ (q : Nat), q ≤ k ∧ i = .int .i64 (q : Int) ∧ Hid ((∀ j, j < q → (c j).name ≠ nm) ∧ CB wr NB #[.string nm, .int .i64 ba, .bool false, .slice ra rn rc, .slice sa sn sc] 31 ∧ Below w.heap.size w wr)) (fun i _ => k - (intOf i).toNat)
        case atStart => exact ⟨0, Nat.zero_le _, rfl, HL0⟩
        case round =>
          clear HL0
          obtain ⟨q, hq, rfl, HQ⟩ := hrel
          obtain ⟨w2, rfl⟩ : ∃ x, x = wr := ⟨wr, rfl⟩
          by_cases hlq : q < k
          · have hlq2 : (q : Int) < (k : Int) := by omega
            have hqn : (q : Int) < (n : Int) := by omega
            have d0 := HRC.out w2 HQ.out.2.2 q (by omega)
            have x0 := (HQ.out.2.1.cell 0).trans rfl
            obtain ⟨nq, hnq⟩ : ∃ s, (c q).name = s := ⟨_, rfl⟩
            have HNQ : Hid ((c q).name = nq) := hnq
            rw [hnq] at d0
            clear hnq
            by_cases e : nq = nm
            · have g := lists_t e
              have HV : Hid (isB n c = false) := hid (HDF.out q (by omega) (HNQ.out.trans e))
              have HB2 : Hid (Below w.heap.size w w2) := HQ.out.2.2
              clear HQ HDF HIF HNX e HIB
              go_wp2
              go_quiet (fail)
              go_wp2
              go_returns
              exact ⟨ret_bool HV.out.symm, bd_N HB2.out _⟩
            · have g := lists_f e
              have HN : Hid (∀ u, (∀ j, j < q + 1 → (c j).name ≠ nm) ∧ CB (w2.drewN u) NB #[.string nm, .int .i64 ba, .bool false, .slice ra rn rc, .slice sa sn sc] 31 ∧ Below w.heap.size w (w2.drewN u)) := hid (fun u => ⟨fun j hj => by
                by_cases e2 : j = q
                · subst e2; rw [HNQ.out]; exact e
                · exact HQ.out.1 j (by omega), HQ.out.2.1, bd_N HQ.out.2.2 _⟩)
              clear HQ e
              go_wp2
              go_quiet (fail)
              go_wp2
              go_roundw
              case rel => exact ⟨q + 1, by omega, by go_num, HN.out _⟩
              case measure => simp [intOf]; omega
          · obtain rfl : q = k := by omega
            have lqq : ¬ (q : Int) < (q : Int) := by omega
            have HDN : Hid (∀ j, j < q → (c j).name ≠ nm) := HQ.out.1
            have HP0 : Hid ((∀ j, j < 0 → paB (q : Int) (n : Int) (rz j) = true) ∧ CB w2 NB #[.string nm, .int .i64 ba, .bool false, .slice ra rn rc, .slice sa sn sc] 31 ∧ Below w.heap.size w w2) := hid ⟨fun j hj => by omega, HQ.out.2⟩
            clear HQ HDF
            go_wp2
            go_loopw [7] (fun i wr => ∃ (p : Nat), p ≤ rn ∧ i = .int .i64 (p : Int) ∧ Hid ((∀ j, j < p → paB (q : Int) (n : Int) (rz j) = true) ∧ CB wr NB #[.string nm, .int .i64 ba, .bool false, .slice ra rn rc, .slice sa sn sc] 31 ∧ Below w.heap.size w wr)) (fun i _ => rn - (intOf i).toNat)
            case atStart => exact ⟨0, Nat.zero_le _, rfl, HP0⟩
            case round =>
              clear HP0
              obtain ⟨p, hp, rfl, HQ⟩ := hrel
              obtain ⟨w3, rfl⟩ : ∃ x, x = wr := ⟨wr, rfl⟩
              have x3 : w3.cell? ⟨NB, 3, none⟩ = some (.slice ra rn rc) := (HQ.out.2.1.cell 3).trans rfl
              by_cases hlp : p < rn
              · have hlp2 : (p : Int) < (rn : Int) := by omega
                obtain ⟨pb, po, rfl, _⟩ := HR5.out.addr (by omega)
                obtain ⟨d0, d1, d2, d3, d4, d5⟩ := (HR5.out.below HQ.out.2.2).cell hlp
                cases gp : paB (q : Int) (n : Int) (rz p)
                · have HV : Hid (isB n c = false) := hid (HIF.out (by rw [HIB.out, apB_bad hlp gp]; rfl))
                  have HG : Hid (paB (q : Int) (n : Int) (rz p) = false) := gp
                  clear gp
                  go_wp2_with (go_at_call 71; refine (l17Part_eq (rz p) _ _ _ _ HOB.out.1 HOB.out.2.1 HOB.out.2.2.1 HOB.out.2.2.2 HG.out).mono ?_; rintro e w4 ⟨rfl, b4⟩; have HB4 : Hid (Below w.heap.size w w4) := bel_on HQ.out.2.2 b4; clear b4)
                  go_returns
                  exact ⟨ret_bool HV.out.symm, HB4.out⟩
                · have HG : Hid (paB (q : Int) (n : Int) (rz p) = true) := gp
                  clear gp
                  go_wp2_with (go_at_call 71; refine (l17Part_eq (rz p) _ _ _ _ HOB.out.1 HOB.out.2.1 HOB.out.2.2.1 HOB.out.2.2.2 HG.out).mono ?_; rintro e w4 ⟨rfl, b4⟩; have HB4 : Hid (CB w4 NB #[.string nm, .int .i64 ba, .bool false, .slice (some ⟨pb, po, none⟩) rn rc, .slice sa sn sc] 31 ∧ Below w.heap.size w w4) := hid ⟨HQ.out.2.1.below b4 HQ.out.2.1.lt, bel_on HQ.out.2.2 b4⟩; clear b4)
                  have HN : Hid ((∀ j, j < p + 1 → paB (q : Int) (n : Int) (rz j) = true) ∧ CB w4 NB #[.string nm, .int .i64 ba, .bool false, .slice (some ⟨pb, po, none⟩) rn rc, .slice sa sn sc] 31 ∧ Below w.heap.size w w4) := hid ⟨fun j hj => by
                    by_cases e2 : j = p
                    · subst e2; exact HG.out
                    · exact HQ.out.1 j (by omega), HB4.out⟩
                  go_roundw
                  case rel => exact ⟨p + 1, by omega, by go_num, HN⟩
                  case measure => simp [intOf]; omega
              · obtain rfl : p = rn := by omega
                have lpp : ¬ (p : Int) < (p : Int) := by omega
                have HPA : Hid (apB (paB (q : Int) (n : Int)) p rz = true) := hid (apB_t ⟨by omega, HQ.out.1⟩)
                have HP0 : Hid ((∀ j, j < 0 → beB (q : Int) (n : Int) (sz j) = true) ∧ CB w3 NB #[.string nm, .int .i64 ba, .bool false, .slice ra p rc, .slice sa sn sc] 31 ∧ Below w.heap.size w w3) := hid ⟨fun j hj => by omega, HQ.out.2⟩
                clear HQ
                go_wp2
                go_loopw [8] (fun i wr => ∃ (a : Nat), a ≤ sn ∧ i = .int .i64 (a : Int) ∧ Hid ((∀ j, j < a → beB (q : Int) (n : Int) (sz j) = true) ∧ CB wr NB #[.string nm, .int .i64 ba, .bool false, .slice ra p rc, .slice sa sn sc] 31 ∧ Below w.heap.size w wr)) (fun i _ => sn - (intOf i).toNat)
                case atStart => exact ⟨0, Nat.zero_le _, rfl, HP0⟩
                case round =>
                  clear HP0 x3
                  obtain ⟨a, ha, rfl, HQ⟩ := hrel
                  obtain ⟨w4, rfl⟩ : ∃ x, x = wr := ⟨wr, rfl⟩
                  have x4 : w4.cell? ⟨NB, 4, none⟩ = some (.slice sa sn sc) := (HQ.out.2.1.cell 4).trans rfl
                  by_cases hla : a < sn
                  · have hla2 : (a : Int) < (sn : Int) := by omega
                    obtain ⟨pb, po, rfl, _⟩ := HR6.out.addr (by omega)
                    obtain ⟨d0, d1, d2, d3, d4, d5⟩ := (HR6.out.below HQ.out.2.2).cell hla
                    cases gp : paB (q : Int) (n : Int) (sz a)
                    · have HV : Hid (isB n c = false) := hid (HIF.out (by rw [HIB.out, HPA.out, apB_bad hla (by simp [beB, gp])]; rfl))
                      have HG : Hid (paB (q : Int) (n : Int) (sz a) = false) := gp
                      clear gp
                      go_wp2_with (go_at_call 71; refine (l17Part_eq (sz a) _ _ _ _ HOB.out.1 HOB.out.2.1 HOB.out.2.2.1 HOB.out.2.2.2 HG.out).mono ?_; rintro e w5 ⟨rfl, b5⟩; have HB5 : Hid (Below w.heap.size w w5) := bel_on HQ.out.2.2 b5; clear b5)
                      go_returns
                      exact ⟨ret_bool HV.out.symm, HB5.out⟩
                    have HG : Hid (paB (q : Int) (n : Int) (sz a) = true) := gp
                    cases gs : ((sz a).scr == 0)
                    · have HV : Hid (isB n c = false) := hid (HIF.out (by rw [HIB.out, HPA.out, apB_bad hla (by simp [beB, gp, gs])]; rfl))
                      have gs2 : ((sz a).scr != 0) = true := by simp [bne, gs]
                      clear gp gs
                      go_wp2_with (go_at_call 71; go_loud (refine (l17Part_eq (sz a) _ _ _ _ HOB.out.1 HOB.out.2.1 HOB.out.2.2.1 HOB.out.2.2.2 HG.out).mono ?_; rintro e w5 ⟨rfl, b5⟩; have x5 := keep_cell b5 x4; have y2 := keep_cell b5 d2; have y5 := keep_cell b5 d5; have HB5 : Hid (CB w5 NB #[.string nm, .int .i64 ba, .bool false, .slice ra p rc, .slice (some ⟨pb, po, none⟩) sn sc] 31 ∧ Below w.heap.size w w5) := hid ⟨HQ.out.2.1.below b5 HQ.out.2.1.lt, bel_on HQ.out.2.2 b5⟩; clear b5))
                      go_returns
                      exact ⟨ret_bool HV.out.symm, HB5.out.2⟩
                    have gs2 : ((sz a).scr != 0) = false := by simp [bne, gs]
                    cases gg : ((sz a).grp == 0)
                    · have HV : Hid (isB n c = false) := hid (HIF.out (by rw [HIB.out, HPA.out, apB_bad hla (by simp [beB, gp, gs, gg])]; rfl))
                      have gg2 : ((sz a).grp != 0) = true := by simp [bne, gg]
                      clear gp gs gg
                      go_wp2_with (go_at_call 71; go_loud (refine (l17Part_eq (sz a) _ _ _ _ HOB.out.1 HOB.out.2.1 HOB.out.2.2.1 HOB.out.2.2.2 HG.out).mono ?_; rintro e w5 ⟨rfl, b5⟩; have x5 := keep_cell b5 x4; have y2 := keep_cell b5 d2; have y5 := keep_cell b5 d5; have HB5 : Hid (CB w5 NB #[.string nm, .int .i64 ba, .bool false, .slice ra p rc, .slice (some ⟨pb, po, none⟩) sn sc] 31 ∧ Below w.heap.size w w5) := hid ⟨HQ.out.2.1.below b5 HQ.out.2.1.lt, bel_on HQ.out.2.2 b5⟩; clear b5))
                      go_returns
                      exact ⟨ret_bool HV.out.symm, HB5.out.2⟩
                    have gg2 : ((sz a).grp != 0) = false := by simp [bne, gg]
                    have HBE : Hid (beB (q : Int) (n : Int) (sz a) = true) := hid (by simp [beB, gp, gs, gg])
                    clear gp gs gg
                    go_wp2_with (go_at_call 71; go_loud (refine (l17Part_eq (sz a) _ _ _ _ HOB.out.1 HOB.out.2.1 HOB.out.2.2.1 HOB.out.2.2.2 HG.out).mono ?_; rintro e w5 ⟨rfl, b5⟩; have x5 := keep_cell b5 x4; have y2 := keep_cell b5 d2; have y5 := keep_cell b5 d5; have HB5 : Hid (CB w5 NB #[.string nm, .int .i64 ba, .bool false, .slice ra p rc, .slice (some ⟨pb, po, none⟩) sn sc] 31 ∧ Below w.heap.size w w5) := hid ⟨HQ.out.2.1.below b5 HQ.out.2.1.lt, bel_on HQ.out.2.2 b5⟩; clear b5))
                    have HN : Hid ((∀ j, j < a + 1 → beB (q : Int) (n : Int) (sz j) = true) ∧ CB w5 NB #[.string nm, .int .i64 ba, .bool false, .slice ra p rc, .slice (some ⟨pb, po, none⟩) sn sc] 31 ∧ Below w.heap.size w w5) := hid ⟨fun j hj => by
                      by_cases e2 : j = a
                      · subst e2; exact HBE.out
                      · exact HQ.out.1 j (by omega), HB5.out.1, HB5.out.2⟩
                    go_roundw
                    case rel => exact ⟨a + 1, by omega, by go_num, HN⟩
                    case measure => simp [intOf]; omega
                  · obtain rfl : a = sn := by omega
                    have laa : ¬ (a : Int) < (a : Int) := by omega
                    have HN := hid (HNX.out (by rw [HIB.out, HPA.out, apB_t ⟨by omega, HQ.out.1⟩]; rfl) HDN.out)
                    have HB4 : Hid (Below w.heap.size w w4) := HQ.out.2.2
                    clear HQ
                    go_wp2
                    go_roundw
                    case rel => exact ⟨q + 1, by omega, by go_num, HN.out.1, HN.out.2, HB4.out⟩
                    case measure => simp [intOf]; omega

      · have hb : ((rn : Int) == 0) = false ∧ ¬ (0 : Int) < (sn : Int) := HDH.out _ (fun q => by cases q) (fun a b => ⟨a, b⟩)
        obtain ⟨g0, g1⟩ := hb
        have g2 : decide ((0 : Int) < (sn : Int)) = false := decide_eq_false g1
        clear HDH
        go_wp2_with (first | (go_at_call 70; refine (specName_eq _ _ _ HNZ.out h1).mono ?_; rintro e w1 ⟨rfl, ew⟩; replace ew := ew.symm; subst ew) | (go_at_call 67; refine (l1In_eq _ _ _ _ _ h2).mono ?_; rintro e w1 ⟨rfl, ew⟩; replace ew := ew.symm; subst ew))

        have HL0 : Hid ((∀ j, j < 0 → (c j).name ≠ nm) ∧ CB (wo.alloc (.cells #[.string nm, .int .i64 ba, .bool true, .slice ra rn rc, .slice sa sn sc] 31 (0, 0))) wo.heap.size #[.string nm, .int .i64 ba, .bool true, .slice ra rn rc, .slice sa sn sc] 31 ∧ Below w.heap.size w (wo.alloc (.cells #[.string nm, .int .i64 ba, .bool true, .slice ra rn rc, .slice sa sn sc] 31 (0, 0)))) := hid ⟨fun j hj => by omega, HBX.out⟩
        have hNBw : w.heap.size ≤ wo.heap.size := HBo.out.size
        clear HBX c0 c1 c2 c3 c4
        obtain ⟨NB, hNB⟩ : ∃ N, wo.heap.size = N := ⟨_, rfl⟩
        rw [hNB] at HL0 hNBw ⊢
        clear hNB
        go_loopw [6] (fun i wr => ∃ (q : Nat), q ≤ k ∧ i = .int .i64 (q : Int) ∧ Hid ((∀ j, j < q → (c j).name ≠ nm) ∧ CB wr NB #[.string nm, .int .i64 ba, .bool true, .slice ra rn rc, .slice sa sn sc] 31 ∧ Below w.heap.size w wr)) (fun i _ => k - (intOf i).toNat)
        case atStart => exact ⟨0, Nat.zero_le _, rfl, HL0⟩
        case round =>
          clear HL0
          obtain ⟨q, hq, rfl, HQ⟩ := hrel
          obtain ⟨w2, rfl⟩ : ∃ x, x = wr := ⟨wr, rfl⟩
          by_cases hlq : q < k
          · have hlq2 : (q : Int) < (k : Int) := by omega
            have hqn : (q : Int) < (n : Int) := by omega
            have d0 := HRC.out w2 HQ.out.2.2 q (by omega)
            have x0 := (HQ.out.2.1.cell 0).trans rfl
            obtain ⟨nq, hnq⟩ : ∃ s, (c q).name = s := ⟨_, rfl⟩
            have HNQ : Hid ((c q).name = nq) := hnq
            rw [hnq] at d0
            clear hnq
            by_cases e : nq = nm
            · have g := lists_t e
              have HV : Hid (isB n c = false) := hid (HDF.out q (by omega) (HNQ.out.trans e))
              have HB2 : Hid (Below w.heap.size w w2) := HQ.out.2.2
              clear HQ HDF HIF HNX e HIB
              go_wp2
              go_quiet (fail)
              go_wp2
              go_returns
              exact ⟨ret_bool HV.out.symm, bd_N HB2.out _⟩
            · have g := lists_f e
              have HN : Hid (∀ u, (∀ j, j < q + 1 → (c j).name ≠ nm) ∧ CB (w2.drewN u) NB #[.string nm, .int .i64 ba, .bool true, .slice ra rn rc, .slice sa sn sc] 31 ∧ Below w.heap.size w (w2.drewN u)) := hid (fun u => ⟨fun j hj => by
                by_cases e2 : j = q
                · subst e2; rw [HNQ.out]; exact e
                · exact HQ.out.1 j (by omega), HQ.out.2.1, bd_N HQ.out.2.2 _⟩)
              clear HQ e
              go_wp2
              go_quiet (fail)
              go_wp2
              go_roundw
              case rel => exact ⟨q + 1, by omega, by go_num, HN.out _⟩
              case measure => simp [intOf]; omega
          · obtain rfl : q = k := by omega
            have lqq : ¬ (q : Int) < (q : Int) := by omega
            have HDN : Hid (∀ j, j < q → (c j).name ≠ nm) := HQ.out.1
            have HP0 : Hid ((∀ j, j < 0 → paB (q : Int) (n : Int) (rz j) = true) ∧ CB w2 NB #[.string nm, .int .i64 ba, .bool true, .slice ra rn rc, .slice sa sn sc] 31 ∧ Below w.heap.size w w2) := hid ⟨fun j hj => by omega, HQ.out.2⟩
            clear HQ HDF
            go_wp2
            go_loopw [7] (fun i wr => ∃ (p : Nat), p ≤ rn ∧ i = .int .i64 (p : Int) ∧ Hid ((∀ j, j < p → paB (q : Int) (n : Int) (rz j) = true) ∧ CB wr NB #[.string nm, .int .i64 ba, .bool true, .slice ra rn rc, .slice sa sn sc] 31 ∧ Below w.heap.size w wr)) (fun i _ => rn - (intOf i).toNat)
            case atStart => exact ⟨0, Nat.zero_le _, rfl, HP0⟩
            case round =>
              clear HP0
              obtain ⟨p, hp, rfl, HQ⟩ := hrel
              obtain ⟨w3, rfl⟩ : ∃ x, x = wr := ⟨wr, rfl⟩
              have x3 : w3.cell? ⟨NB, 3, none⟩ = some (.slice ra rn rc) := (HQ.out.2.1.cell 3).trans rfl
              by_cases hlp : p < rn
              · have hlp2 : (p : Int) < (rn : Int) := by omega
                obtain ⟨pb, po, rfl, _⟩ := HR5.out.addr (by omega)
                obtain ⟨d0, d1, d2, d3, d4, d5⟩ := (HR5.out.below HQ.out.2.2).cell hlp
                cases gp : paB (q : Int) (n : Int) (rz p)
                · have HV : Hid (isB n c = false) := hid (HIF.out (by rw [HIB.out, apB_bad hlp gp]; rfl))
                  have HG : Hid (paB (q : Int) (n : Int) (rz p) = false) := gp
                  clear gp
                  go_wp2_with (go_at_call 71; refine (l17Part_eq (rz p) _ _ _ _ HOB.out.1 HOB.out.2.1 HOB.out.2.2.1 HOB.out.2.2.2 HG.out).mono ?_; rintro e w4 ⟨rfl, b4⟩; have HB4 : Hid (Below w.heap.size w w4) := bel_on HQ.out.2.2 b4; clear b4)
                  go_returns
                  exact ⟨ret_bool HV.out.symm, HB4.out⟩
                · have HG : Hid (paB (q : Int) (n : Int) (rz p) = true) := gp
                  clear gp
                  go_wp2_with (go_at_call 71; refine (l17Part_eq (rz p) _ _ _ _ HOB.out.1 HOB.out.2.1 HOB.out.2.2.1 HOB.out.2.2.2 HG.out).mono ?_; rintro e w4 ⟨rfl, b4⟩; have HB4 : Hid (CB w4 NB #[.string nm, .int .i64 ba, .bool true, .slice (some ⟨pb, po, none⟩) rn rc, .slice sa sn sc] 31 ∧ Below w.heap.size w w4) := hid ⟨HQ.out.2.1.below b4 HQ.out.2.1.lt, bel_on HQ.out.2.2 b4⟩; clear b4)
                  have HN : Hid ((∀ j, j < p + 1 → paB (q : Int) (n : Int) (rz j) = true) ∧ CB w4 NB #[.string nm, .int .i64 ba, .bool true, .slice (some ⟨pb, po, none⟩) rn rc, .slice sa sn sc] 31 ∧ Below w.heap.size w w4) := hid ⟨fun j hj => by
                    by_cases e2 : j = p
                    · subst e2; exact HG.out
                    · exact HQ.out.1 j (by omega), HB4.out⟩
                  go_roundw
                  case rel => exact ⟨p + 1, by omega, by go_num, HN⟩
                  case measure => simp [intOf]; omega
              · obtain rfl : p = rn := by omega
                have lpp : ¬ (p : Int) < (p : Int) := by omega
                have HPA : Hid (apB (paB (q : Int) (n : Int)) p rz = true) := hid (apB_t ⟨by omega, HQ.out.1⟩)
                have HP0 : Hid ((∀ j, j < 0 → beB (q : Int) (n : Int) (sz j) = true) ∧ CB w3 NB #[.string nm, .int .i64 ba, .bool true, .slice ra p rc, .slice sa sn sc] 31 ∧ Below w.heap.size w w3) := hid ⟨fun j hj => by omega, HQ.out.2⟩
                clear HQ
                go_wp2
                go_loopw [8] (fun i wr => ∃ (a : Nat), a ≤ sn ∧ i = .int .i64 (a : Int) ∧ Hid ((∀ j, j < a → beB (q : Int) (n : Int) (sz j) = true) ∧ CB wr NB #[.string nm, .int .i64 ba, .bool true, .slice ra p rc, .slice sa sn sc] 31 ∧ Below w.heap.size w wr)) (fun i _ => sn - (intOf i).toNat)
                case atStart => exact ⟨0, Nat.zero_le _, rfl, HP0⟩
                case round =>
                  clear HP0 x3
                  obtain ⟨a, ha, rfl, HQ⟩ := hrel
                  obtain ⟨w4, rfl⟩ : ∃ x, x = wr := ⟨wr, rfl⟩
                  have x4 : w4.cell? ⟨NB, 4, none⟩ = some (.slice sa sn sc) := (HQ.out.2.1.cell 4).trans rfl
                  by_cases hla : a < sn
                  · exact absurd hla (by omega)
                  · obtain rfl : a = sn := by omega
                    have laa : ¬ (a : Int) < (a : Int) := by omega
                    have HN := hid (HNX.out (by rw [HIB.out, HPA.out, apB_t ⟨by omega, HQ.out.1⟩]; rfl) HDN.out)
                    have HB4 : Hid (Below w.heap.size w w4) := HQ.out.2.2
                    clear HQ
                    go_wp2
                    go_roundw
                    case rel => exact ⟨q + 1, by omega, by go_num, HN.out.1, HN.out.2, HB4.out⟩
                    case measure => simp [intOf]; omega

    · obtain rfl : k = n := by omega
      have lkk : ¬ (k : Int) < (k : Int) := by omega
      have HLV : Hid (LvOk k c) := itB_lv HH.out.1
      go_wp2_with (go_at_call 72; refine (l17Levels_any ad k cap c _ (by omega) (HR.out.below HH.out.2.2) HLV.out).mono ?_; rintro e w1 ⟨rfl, i1, b1⟩; have HI1 : Hid (IB w1 wo.heap.size k (lvS c k)) := i1; have HB1 : Hid (Below w.heap.size w w1) := bel_on HH.out.2.2 b1; clear i1 b1)
      have HA : Hid ((∀ j, j < k → itB (j : Int) (k : Int) (c j) = true) ∧ DisP k c) := hid ⟨HH.out.1, HH.out.2.1⟩
      clear HH
      generalize wo.heap.size = LB at HI1 ⊢
      go_loopw [10] (fun i wr => ∃ (q : Nat), q ≤ k ∧ i = .int .i64 (q : Int) ∧ Hid ((∀ j, j < q → lvS c k j ≤ 20) ∧ IB wr LB k (lvS c k) ∧ Below w.heap.size w wr)) (fun i _ => k - (intOf i).toNat)
      case atStart => exact ⟨0, Nat.zero_le _, rfl, fun j hj => by omega, HI1.out, HB1.out⟩
      case round =>
        clear HI1 HB1
        obtain ⟨q, hq, rfl, HQ⟩ := hrel
        by_cases hlq : q < k
        · have hlq2 : (q : Int) < (k : Int) := by omega
          have d0 := HQ.out.2.1.cell hlq
          obtain ⟨A, hA⟩ : ∃ A, lvS c k q = A := ⟨_, rfl⟩
          rw [hA] at d0
          by_cases g : 20 < A
          · have HV : Hid (isB k c = false) := isB_f fun H => by have := H.2.2.2 q hlq; omega
            go_wp2
            go_returns
            exact ⟨ret_bool HV.out.symm, HQ.out.2.2⟩
          · have HN : Hid (∀ j, j < q + 1 → lvS c k j ≤ 20) := hid (fun j hj => by
              by_cases e2 : j = q
              · subst e2; omega
              · exact HQ.out.1 j (by omega))
            clear hA
            go_wp2
            go_roundw
            case rel => exact ⟨q + 1, by omega, by go_num, HN.out, HQ.out.2⟩
            case measure => simp [intOf]; omega
        · obtain rfl : q = k := by omega
          have lqq : ¬ (q : Int) < (q : Int) := by omega
          have HV : Hid (isB q c = true) := isB_t ⟨by omega, HA.out.1, HA.out.2, HQ.out.1⟩
          go_wp2
          go_returns
          exact ⟨ret_bool HV.out.symm, HQ.out.2.2⟩
theorem specItems_eq (ad : Option Addr) (n cap : Nat) (c : Nat → IT) (v : Bool) (w : World) (h : (n : Int) ≤ 1048576) (hz : IZ n c) (hr : ITr w ad n c) (hv : isB n c = v) :
    Calls Try.prog 31 #[.slice ad n cap] w fun e w' => e = .returned (.bool v) ∧ Below w.heap.size w w' := by
  subst hv; exact specItems_any ad n cap c w h hz hr
end Go.Proofs.Ytmbdeafpfdeigaa
