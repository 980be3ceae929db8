/- Load of the model. -/
import Derived.Test.YtogolmbgboihdaaLc
namespace Go.Proofs.Ytogolmbgboihdaa
open Go Go.ChangeShapes Go.WideShapes Go.ChangeAt Go.RowKit
set_option linter.unusedVariables false
set_option linter.unusedSimpArgs false

/-- Slots in a row that grows. -/
structure AS (w : World) (g k oc : Nat) (S : Nat → SL5) (W : World) : Prop where
  own : W.ownsRow w.heap.size 36 5 (.slice (some ⟨g, 0, none⟩) k oc) k (rowSL5 S k)
  bel : Below w.heap.size w W
section
variable {w W W' : World} {g k oc : Nat} {S : Nat → SL5}
theorem AS.below (h : AS w g k oc S W) (b : Below W.heap.size W W') : AS w g k oc S W' := ⟨earow h.own (fun q hq => b.block q (h.own.lt q hq).2), bel_on h.bel b⟩
theorem AS.fin (h : AS w g k oc S W) : OwnSL5 W w.heap.size (some ⟨g, 0, none⟩) k S := by
  obtain ⟨ad, cp, e, h1, h2⟩ := ownSL5_of h.own
  simp only [Value.slice.injEq] at e
  rw [e.1]; exact h2
theorem AS.row (h : AS w g k oc S W) : SLr W (some ⟨g, 0, none⟩) k S := h.fin.row
theorem AS.start (w : World) (S : Nat → SL5) : AS w w.heap.size 0 0 S (w.alloc (.cells #[] 36)) := ⟨madeSL5 (CB.new _ _) (Nat.le_refl _), (Below.refl _ _).alloc (Nat.le_refl _) _⟩
theorem AS.grow {w9 : World} {g9 oc9 : Nat} (h : AS w g k oc S W) (hg : W.grownBy w9 (Value.slice (some ⟨g, 0, none⟩) k oc).ownBlock) (hown : w9.ownsRow w.heap.size 36 5 (.slice (some ⟨g9, 0, none⟩) (k + 1) oc9) (k + 1) (rowSL5 S (k + 1))) : AS w g9 (k + 1) oc9 S w9 := ⟨hown, egrown h.bel (Nat.le_refl _) hg (fun q hq => by
  have : q = g := by simpa [Value.ownBlock] using hq.symm
  have := (h.own.lt g rfl).1; omega)⟩
theorem AS.kept {w9 : World} {b : Nat} {cs : Array Value} {t : TypeId} (h : AS w g k oc S W) (hg : W.grownBy w9 (Value.slice (some ⟨g, 0, none⟩) k oc).ownBlock) (hc : CB W b cs t) (ht : t ≠ 36) : CB w9 b cs t := hc.keep (hg.block _ hc.lt (fun e => CB.ne hc h.own ht (by rw [e])))
end
/-- What stands while a task of the model is loaded. -/
structure L2 (w : World) (g k oc : Nat) (S : Nat → SL5) (jb tb : Nat) (jx tx : Array Value) (W : World) : Prop where
  a : AS w g k oc S W
  j : CB W jb jx 34
  t : CB W tb tx 38
theorem L2.below {w W W' : World} {g k oc jb tb : Nat} {S : Nat → SL5} {jx tx : Array Value} (h : L2 w g k oc S jb tb jx tx W) (b : Below W.heap.size W W') : L2 w g k oc S jb tb jx tx W' := ⟨h.a.below b, h.j.below b h.j.lt, h.t.below b h.t.lt⟩
structure L3 (w : World) (g k oc : Nat) (S : Nat → SL5) (jb tb sx : Nat) (jx tx sc : Array Value) (W : World) : Prop where
  l : L2 w g k oc S jb tb jx tx W
  s : CB W sx sc 36
theorem L3.below {w W W' : World} {g k oc jb tb sx : Nat} {S : Nat → SL5} {jx tx sc : Array Value} (h : L3 w g k oc S jb tb sx jx tx sc W) (b : Below W.heap.size W W') : L3 w g k oc S jb tb sx jx tx sc W' := ⟨h.l.below b, h.s.below b h.s.lt⟩
theorem fr_step {r a b f x : Int} (hf : x = max r (max a b)) (ja ma : Bool) : (if ja || ma then max x f else x) = max r (max (if ja then max a f else a) (if ma then max b f else b)) := by
  cases ja <;> cases ma <;> simp <;> omega
theorem ownSL_n {w : World} {lo : Nat} {ad : Option Addr} {F : Nat → SL5} : OwnSL5 w lo ad 0 F := .inl rfl
theorem kN_bdS {d : Nat → JB} {o : Nat → Int} {m : Nat} (hd : ∀ j, j < m → (d j).rn ≤ 8) (ho : ∀ i, i < m → 0 ≤ o i ∧ o i < (m : Int)) : ∀ {n : Nat}, n ≤ m → kN d o n ≤ 8 * n
  | 0, _ => Nat.le_refl _
  | n + 1, h => by
    have h1 := kN_bdS hd ho (n := n) (by omega)
    have h2 := ho n (by omega)
    have h3 := hd (o n).toNat (by omega)
    show kN d o n + (d (o n).toNat).rn ≤ 8 * (n + 1)
    omega

set_option maxRecDepth 20000 in
set_option maxHeartbeats 16000000 in
theorem specLoad_any (ma : Option Addr) (n mk : Nat) (c : Nat → MA3) (ja : Option Addr) (m jk : Nat) (d : Nat → JB) (oa : Option Addr) (no ok : Nat) (o : Nat → Int) (w : World) (hn : (n : Int) ≤ 1048576) (hm : (m : Int) ≤ 1048576) (hl : ∀ j, j < m → ((d j).rn : Int) ≤ 1048576) (hno : (no : Int) ≤ 1048576) (hok : no ≤ ok) (hM : MAr w ma n c) (hJ : JBr w ja m d) (hO : IR w oa no o) :
    Calls Try.prog 14 #[.slice ma n mk, .slice ja m jk, .slice oa no ok] w fun e w' => ∃ ad cap, e = .returned (.tuple #[.slice ad (ldM n c m d no o) cap, .bool (ldB n c m d no o)]) ∧ OwnSL5 w' w.heap.size ad (ldM n c m d no o) (sN c d o m) ∧ Below w.heap.size w w' := by
  have HM0 : Hid (MAr w ma n c) := hM
  have HJ0 : Hid (JBr w ja m d) := hJ
  have HO0 : Hid (IR w oa no o) := hO
  have HN : Hid (∀ j, j < m → ((d j).rn : Int) ≤ 1048576) := hl
  have HBL : Hid (Below w.heap.size w (w.alloc (.cells #[] 36))) := (Below.refl _ _).alloc (Nat.le_refl _) _
  clear hM hJ hO hl
  cases h1 : loB n c m d
  · have HV := hid (ld_no (nm := n) (c := c) (nj := m) (d := d) (no := no) (o := o) fun H => by rw [H.1] at h1; cases h1)
    have HA : Hid (loB n c m d = false) := h1
    clear h1
    simp only [HV.out.1, HV.out.2]
    go_enter Try.func14, Try.ntmps14
    go_wp2_with (first | (go_at_call 26; refine (specLoadOk_eq ma n mk c ja m jk d _ _ hn hm HN.out (HM0.out.below HBL.out) (HJ0.out.below HBL.out) HA.out).mono ?_; rintro e w1 ⟨rfl, b1⟩; have HB1 : Hid (Below w.heap.size w w1) := bel_on HBL.out b1; clear b1) | (go_at_call 52; refine (order_eq oa no ok m o _ _ hno hok hm40 (HO0.out.below HB1.out) HR.out).mono ?_; rintro e w2 ⟨rfl, b2⟩; have HB2 : Hid (Below w.heap.size w w2) := bel_on HB1.out b2; clear b2))
    go_returns
    first | exact ⟨_, _, rfl, ownSL_n, HB1.out⟩ | exact ⟨_, ⟨_, rfl⟩, ownSL_n, HB1.out⟩
  have hlp := lo_p h1
  have hm40 : (m : Int) ≤ 40 := by have := hlp.2.2.1.1; omega
  have HA : Hid (loB n c m d = true) := h1
  cases h2 : orB o no m
  · have HV := hid (ld_no (nm := n) (c := c) (nj := m) (d := d) (no := no) (o := o) fun H => by rw [orB_t H.2.1] at h2; cases h2)
    have HR : Hid (orB o no m = false) := h2
    clear h1 h2 hlp
    simp only [HV.out.1, HV.out.2]
    go_enter Try.func14, Try.ntmps14
    go_wp2_with (first | (go_at_call 26; refine (specLoadOk_eq ma n mk c ja m jk d _ _ hn hm HN.out (HM0.out.below HBL.out) (HJ0.out.below HBL.out) HA.out).mono ?_; rintro e w1 ⟨rfl, b1⟩; have HB1 : Hid (Below w.heap.size w w1) := bel_on HBL.out b1; clear b1) | (go_at_call 52; refine (order_eq oa no ok m o _ _ hno hok hm40 (HO0.out.below HB1.out) HR.out).mono ?_; rintro e w2 ⟨rfl, b2⟩; have HB2 : Hid (Below w.heap.size w w2) := bel_on HB1.out b2; clear b2))
    go_returns
    first | exact ⟨_, _, rfl, ownSL_n, HB2.out⟩ | exact ⟨_, ⟨_, rfl⟩, ownSL_n, HB2.out⟩
  have hop := orB_p h2
  obtain rfl : no = m := hop.1
  have HOP : Hid (OrP o no no) := hop
  have HR : Hid (orB o no no = true) := h2
  have hn12 : (n : Int) ≤ 12 := by have := hlp.2.1.1; omega
  obtain ⟨V1, hV1⟩ : ∃ x, ldB n c no d no o = x := ⟨_, rfl⟩
  obtain ⟨V2, hV2⟩ : ∃ x, ldM n c no d no o = x := ⟨_, rfl⟩
  have HVV : Hid (ldB n c no d no o = V1 ∧ ldM n c no d no o = V2) := ⟨hV1, hV2⟩
  rw [hV1, hV2]
  have HKB : Hid (∀ n, n ≤ no → kN d o n ≤ 8 * n) := hid fun n hn => kN_bdS (fun j hj => (jbB_p (hlp.2.2.1.2 j hj)).2.1) hop.2.1 hn
  have HFX0 : Hid (FixS c d o no (sN c d o no)) := sN_fix
  have HLD : Hid (∀ V, LdG d o no (sN c d o no) → V = ldB n c no d no o → V = true) := hid fun V h e => by rw [e]; exact (ld_yes ⟨h1, hop, h⟩).1
  have HY : Hid (LdG d o no (sN c d o no) → V1 = true ∧ V2 = kN d o no) := hid fun h => ⟨by rw [← hV1]; exact (ld_yes ⟨h1, hop, h⟩).1, by rw [← hV2]; exact (ld_yes ⟨h1, hop, h⟩).2⟩
  have HZ : Hid (¬ LdG d o no (sN c d o no) → V1 = false ∧ V2 = 0) := hid fun h => ⟨by rw [← hV1]; exact (ld_no fun H => h H.2.2).1, by rw [← hV2]; exact (ld_no fun H => h H.2.2).2⟩
  clear hV1 hV2 HLD HVV h1 h2 hlp hop
  generalize sN c d o no = S at *
  have HFX : Hid (FixS c d o no S) := HFX0
  clear HFX0
  have HST : Hid (AS w w.heap.size 0 0 S (w.alloc (.cells #[] 36))) := AS.start w S
  obtain ⟨i5, hi5, hz50, hz51, hz52⟩ := infoSL5
  go_enter Try.func14, Try.ntmps14
  go_wp2_with (first | (go_at_call 26; refine (specLoadOk_eq ma n mk c ja no jk d _ _ hn hm HN.out (HM0.out.below HBL.out) (HJ0.out.below HBL.out) HA.out).mono ?_; rintro e w1 ⟨rfl, b1⟩; have HB1 : Hid (Below w.heap.size w w1) := bel_on HBL.out b1; have HS1 := hid (HST.out.below b1); clear b1) | (go_at_call 52; refine (order_eq oa no ok no o _ _ hno hok hm40 (HO0.out.below HB1.out) HR.out).mono ?_; rintro e w2 ⟨rfl, b2⟩; have HB2 : Hid (Below w.heap.size w w2) := bel_on HB1.out b2; have HS2 := hid (HS1.out.below b2); clear b2))
  clear HST HBL
  go_loopw [8, 9] (fun v i wr => ∃ (n1 g oc : Nat), n1 ≤ no ∧ i = .int .i64 (n1 : Int) ∧ v = .slice (some ⟨g, 0, none⟩) (kN d o n1) oc ∧ Hid (GdP d o S n1 0) ∧ Hid (AS w g (kN d o n1) oc S wr)) (fun _ i _ => no - (intOf i).toNat)
  case atStart => exact ⟨0, w.heap.size, 0, Nat.zero_le _, rfl, rfl, ⟨fun n' t' h => by omega, fun t' h => by omega⟩, HS2⟩
  case round =>
    obtain ⟨n1, g, oc, hk, rfl, rfl, HGD, HS⟩ := hrel
    obtain ⟨wo, rfl⟩ : ∃ x, x = wr := ⟨wr, rfl⟩
    by_cases hlt : n1 < no
    · have hlt2 : (n1 : Int) < (no : Int) := by omega
      obtain ⟨ob, oo, rfl, _⟩ := HO0.out.addr (by omega)
      have o0 := HO0.out.cell hlt
      obtain ⟨J, hJ⟩ : ∃ J : Nat, o n1 = (J : Int) := ⟨(o n1).toNat, by have := HOP.out.2.1 n1 hlt; omega⟩
      have HJ : Hid ((o n1).toNat = J) := hid (by omega)
      have hJn : J < no := by have := HOP.out.2.1 n1 hlt; omega
      have hJ2 : (J : Int) < (no : Int) := by omega
      rw [hJ] at o0
      have HOC : Hid (w.cell? ⟨ob, oo + n1, none⟩ = some (.int .i64 (J : Int))) := o0
      replace o0 := keep_cell HS.out.bel o0
      obtain ⟨kb, off, rfl, hkb⟩ := HJ0.out.addr (by omega)
      obtain ⟨ta, tc, _, c0, c1, c2, c3, cT⟩ := HJ0.out.cell hJn
      have HTT : Hid (TKr w ta (d J).rn (d J).rz) := cT
      replace c0 := keep_cell HS.out.bel c0
      replace c1 := keep_cell HS.out.bel c1
      replace c2 := keep_cell HS.out.bel c2
      replace c3 := keep_cell HS.out.bel c3
      have hjb := jbB_p ((lo_p HA.out).2.2.1.2 J hJn)
      have HMC : Hid (∀ t, t < (d J).rn → 0 ≤ ((d J).rz t).mac ∧ ((d J).rz t).mac < (n : Int)) := (lo_p HA.out).2.2.2 J hJn
      have hrd := hjb.1
      have hr8 : ((d J).rn : Int) ≤ 8 := by have := hjb.2.1; omega
      have hr1 : 1 ≤ (d J).rn := by omega
      obtain ⟨tb, to, rfl, htb⟩ := HTT.out.addr (by omega)
      have HTK : Hid (∀ t, t < (d J).rn → tkB ((d J).rz t) = true) := hjb.2.2
      obtain ⟨rd, hrdv⟩ : ∃ y, (d J).rdy = y := ⟨_, rfl⟩
      have HRD : Hid ((d J).rdy = rd) := hrdv
      rw [hrdv] at c0 hrd
      generalize (d J).due = du at c1 hrd
      generalize (d J).wgt = wg at c2 hrd
      obtain ⟨N, hN⟩ : ∃ y, (d J).rn = y := ⟨_, rfl⟩
      have HNN : Hid ((d J).rn = N) := hN
      rw [hN] at c3 hr8 hr1 HTT HMC HTK
      have hrd0 : 0 ≤ rd ∧ rd ≤ 5000 := by omega
      have HJX : Hid (CB (wo.alloc (.cells #[.int .i64 rd, .int .i64 du, .int .i64 wg, .slice (some ⟨tb, to, none⟩) N tc] 34 (0, 0))) wo.heap.size #[.int .i64 rd, .int .i64 du, .int .i64 wg, .slice (some ⟨tb, to, none⟩) N tc] 34) := CB.new _ _
      have HSX : Hid (AS w g (kN d o n1) oc S (wo.alloc (.cells #[.int .i64 rd, .int .i64 du, .int .i64 wg, .slice (some ⟨tb, to, none⟩) N tc] 34 (0, 0)))) := HS.out.below ((Below.refl _ _).alloc (Nat.le_refl _) _)
      clear hjb hrd hrdv hN cT hJ HS
      go_wp2
      clear c0 c1 c2 c3 o0
      generalize wo.alloc (.cells #[.int .i64 rd, .int .i64 du, .int .i64 wg, .slice (some ⟨tb, to, none⟩) N tc] 34 (0, 0)) = W0 at HJX HSX ⊢
      generalize wo.heap.size = JX at HJX ⊢
      go_loopw [8, 11] (fun v i wr => ∃ (t1 g oc : Nat), t1 ≤ N ∧ i = .int .i64 (t1 : Int) ∧ v = .slice (some ⟨g, 0, none⟩) (kN d o n1 + t1) oc ∧ Hid (GdP d o S n1 t1) ∧ Hid (AS w g (kN d o n1 + t1) oc S wr ∧ CB wr JX #[.int .i64 rd, .int .i64 du, .int .i64 wg, .slice (some ⟨tb, to, none⟩) N tc] 34)) (fun _ i _ => N - (intOf i).toNat)
      case atStart => exact ⟨0, g, oc, Nat.zero_le _, rfl, rfl, HGD, HSX.out, HJX.out⟩
      case round =>
        clear HJX HSX HGD
        obtain ⟨t1, g, oc, ht, rfl, rfl, HGD, HS⟩ := hrel
        obtain ⟨wo, rfl⟩ : ∃ x, x = wr := ⟨wr, rfl⟩
        have j0 := (HS.out.2.cell 0).trans rfl
        have j3 := (HS.out.2.cell 3).trans rfl
        by_cases htt : t1 < N
        · have htt2 : (t1 : Int) < (N : Int) := by omega
          obtain ⟨x0, x1, x2⟩ := HTT.out.cell htt
          replace x0 := keep_cell HS.out.1.bel x0
          replace x1 := keep_cell HS.out.1.bel x1
          replace x2 := keep_cell HS.out.1.bel x2
          have htk := tkB_p (HTK.out t1 htt)
          have hmac := HMC.out t1 htt
          obtain ⟨Q, hQ⟩ : ∃ Q : Nat, ((d J).rz t1).mac = (Q : Int) := ⟨((d J).rz t1).mac.toNat, by omega⟩
          have hQn : Q < n := by omega
          have hQn2 : (Q : Int) < (n : Int) := by omega
          obtain ⟨mb, mo, rfl, hmb⟩ := HM0.out.addr (by omega)
          obtain ⟨m0c, m1c, m2c⟩ := HM0.out.cell hQn
          have hma := maB_p ((lo_p HA.out).2.1.2 Q hQn)
          obtain ⟨m0, hm0⟩ : ∃ y, (c Q).op = y := ⟨_, rfl⟩
          obtain ⟨m1, hm1⟩ : ∃ y, (c Q).sh = y := ⟨_, rfl⟩
          obtain ⟨m2, hm2⟩ : ∃ y, (c Q).st = y := ⟨_, rfl⟩
          obtain ⟨y1, hy1⟩ : ∃ y, ((d J).rz t1).hrs = y := ⟨_, rfl⟩
          obtain ⟨y2, hy2⟩ : ∃ y, ((d J).rz t1).fam = y := ⟨_, rfl⟩
          have hcq : c Q = ⟨m0, m1, m2⟩ := by rw [← hm0, ← hm1, ← hm2]
          rw [hm0] at m0c
          rw [hm1] at m1c
          rw [hm2] at m2c hma
          have HMC2 : Hid (w.cell? ⟨mb, mo + Q * 3 + 2, none⟩ = some (.int .i64 m2)) := m2c
          have HMC01 : Hid (w.cell? ⟨mb, mo + Q * 3, none⟩ = some (.int .i64 m0) ∧ w.cell? ⟨mb, mo + Q * 3 + 1, none⟩ = some (.int .i64 m1)) := ⟨m0c, m1c⟩
          have hmm : 0 ≤ m2 ∧ m2 ≤ 100 := by omega
          rw [hQ] at x0
          rw [hy1] at x1 htk
          rw [hy2] at x2 htk
          have hy : 1 ≤ y1 ∧ y1 ≤ 500 ∧ 0 ≤ y2 := by omega
          obtain ⟨KK, hK⟩ : ∃ KK, kN d o n1 + t1 = KK := ⟨_, rfl⟩
          have HKV : Hid (kN d o n1 + t1 = KK) := hK
          have hK320 : (KK : Int) ≤ 320 := by have := HKB.out n1 hk; omega
          have HSL : Hid (∀ i, i < KK → SlR n no d (S i)) := hid (by rw [← hK]; exact gd_slr HA.out HOP.out HFX.out hlt (by rw [HJ.out, HNN.out]; exact ht) HGD.out)
          have HONE0 : Hid (S KK = oneS c d S KK J t1) := hid (by rw [← hK]; have := HFX.out n1 t1 hlt (by rw [HJ.out, HNN.out]; exact htt); rw [HJ.out] at this; exact this)
          rw [hK] at HS
          rw [hK]
          have HNM : Hid (((d J).rz t1).mac = (Q : Int) ∧ ((d J).rz t1).hrs = y1 ∧ ((d J).rz t1).fam = y2 ∧ c Q = ⟨m0, m1, m2⟩) := ⟨hQ, hy1, hy2, hcq⟩
          have HLW : Hid (L2 w g KK oc S JX wo.heap.size #[.int .i64 rd, .int .i64 du, .int .i64 wg, .slice (some ⟨tb, to, none⟩) N tc] #[.int .i64 (Q : Int), .int .i64 y1, .int .i64 y2] (wo.alloc (.cells #[.int .i64 (Q : Int), .int .i64 y1, .int .i64 y2] 38 (0, 0)))) := ⟨HS.out.1.below ((Below.refl _ _).alloc (Nat.le_refl _) _), HS.out.2.below ((Below.refl _ _).alloc (Nat.le_refl _) _) HS.out.2.lt, CB.new _ _⟩
          clear htk hmac hma hm0 hm1 hm2 hy1 hy2 hcq hQ m0c m1c m2c hK HS
          have hwr : IntKind.i64.wrap (y1 + m2) = y1 + m2 := IntWalk.i64_in _ ⟨by omega, by omega⟩
          have j0' := (HLW.out.j.cell 0).trans rfl
          have t0 := (HLW.out.t.cell 0).trans rfl
          have t1c := (HLW.out.t.cell 1).trans rfl
          have g2 := keep_cell HLW.out.a.bel HMC2.out
          go_wp2
          clear x0 x1 x2 j3 j0 j0'
          generalize wo.alloc (.cells #[.int .i64 (Q : Int), .int .i64 y1, .int .i64 y2] 38 (0, 0)) = W1 at HLW t0 t1c g2 ⊢
          generalize wo.heap.size = TB at HLW t0 t1c ⊢
          go_quiet (fail)
          have HLX := hid (HLW.out.below (bd_N (Below.refl _ _) nq))
          generalize W1.drewN nq = W2 at HLX ⊢
          clear HLW t0 t1c g2
          go_wp2
          go_loopw [13, 14, 15] (fun a b i wr => ∃ (i1 : Nat) (fr hr : Int), i1 ≤ KK ∧ a = .int .i64 fr ∧ b = .int .i64 hr ∧ i = .int .i64 (i1 : Int) ∧ Hid (fr = max rd (max (mxJ S (J : Int) i1) (mxM S (Q : Int) i1))) ∧ Hid (hr = y1 + (if lfM d S (Q : Int) i1 = y2 then 0 else m2)) ∧ Hid (L2 w g KK oc S JX TB #[.int .i64 rd, .int .i64 du, .int .i64 wg, .slice (some ⟨tb, to, none⟩) N tc] #[.int .i64 (Q : Int), .int .i64 y1, .int .i64 y2] wr)) (fun _ _ i _ => KK - (intOf i).toNat)
          case atStart => exact ⟨0, rd, y1 + m2, Nat.zero_le _, rfl, by first | rfl | go_num, rfl, hid (by show rd = max rd (max 0 0); omega), hid (by show y1 + m2 = y1 + (if (-1 : Int) = y2 then 0 else m2); rw [if_neg (by omega)]), HLX⟩
          case round =>
            clear HLX
            obtain ⟨i, fr, hr, hi, rfl, rfl, rfl, HFR, HHR, HLW⟩ := hrel
            obtain ⟨wo, rfl⟩ : ∃ x, x = wr := ⟨wr, rfl⟩
            have hmx := mx_bd (j := (J : Int)) (m := (Q : Int)) (k := i) fun q hq => HSL.out q (by omega)
            have hfr : 0 ≤ fr ∧ fr ≤ 5000 := by have := HFR.out; omega
            have hhr : 1 ≤ hr ∧ hr ≤ 600 := by have := HHR.out; split at this <;> omega
            by_cases hlk : i < KK
            · have hlk2 : (i : Int) < (KK : Int) := by omega
              obtain ⟨c0, c1, c2, c3, c4⟩ := HLW.out.a.row.cell hlk
              have hsl := HSL.out i hlk
              obtain ⟨e, he⟩ : ∃ e, S i = e := ⟨_, rfl⟩
              rw [he] at c0 c1 c2 c3 c4 hsl
              have HSI0 : Hid (S i = e) := he
              clear he
              obtain ⟨sj, st, sm, sb, sf⟩ := e
              simp only [Nat.zero_add] at c0 c1 c2 c3 c4
              have HSI : Hid (S i = ⟨sj, st, sm, sb, sf⟩) := HSI0
              obtain ⟨⟨a1, a2⟩, ⟨a3, a4⟩, _, a5⟩ := hsl
              simp only at a1 a2 a3 a4 a5
              obtain ⟨A, rfl⟩ : ∃ A : Nat, sj = (A : Int) := ⟨sj.toNat, by omega⟩
              obtain ⟨B, rfl⟩ : ∃ B : Nat, st = (B : Int) := ⟨st.toNat, by omega⟩
              have hA : A < no := by omega
              rw [Int.toNat_natCast] at a4
              have hB : B < (d A).rn := by omega
              obtain ⟨ua, uc, _, _, _, _, u3, uT⟩ := HJ0.out.cell hA
              obtain ⟨ub, uo, rfl, _⟩ := uT.addr (by omega)
              obtain ⟨_, _, u2⟩ := uT.cell hB
              obtain ⟨fs, hfs⟩ : ∃ y, ((d A).rz B).fam = y := ⟨_, rfl⟩
              have HFS : Hid (famS d ⟨(A : Int), (B : Int), sm, sb, sf⟩ = fs) := hid (by unfold famS; simp only [Int.toNat_natCast]; exact hfs)
              rw [hfs] at u2
              generalize (d A).rn = un at u3 a4 hB
              have HFC : Hid (w.cell? ⟨kb, off + A * 4 + 3, none⟩ = some (.slice (some ⟨ub, uo, none⟩) un uc) ∧ w.cell? ⟨ub, uo + B * 3 + 2, none⟩ = some (.int .i64 fs)) := ⟨u3, u2⟩
              clear uT u3 u2 hfs HSI0
              obtain ⟨fx, hfx⟩ : ∃ x, max fr sf = x := ⟨_, rfl⟩
              have HFX0 : Hid (max fr sf = fx) := hfx
              have HQ1 : Hid (∀ W : World, Calls Try.prog 53 #[.int .i64 fr, .int .i64 sf] W fun e w' => e = .returned (.int .i64 fx) ∧ w' = W) := fun W => by have := l9Max_any fr sf W; rw [hfx] at this; exact this
              have hfxb : 0 ≤ fx ∧ fx ≤ 5000 := by omega
              clear hfx
              have sjn : ((A : Int) = (A : Int)) := rfl
              by_cases hmq : sm = (Q : Int)
              · by_cases hff : fs = y2
                · by_cases hj : (A : Int) = (J : Int)
                  · skip
                    have HFN : Hid (fx = max rd (max (mxJ S (J : Int) (i + 1)) (mxM S (Q : Int) (i + 1)))) := hid (by unfold mxJ mxM; rw [HSI.out]; simp only; rw [if_pos hj, if_pos hmq]; have := HFR.out; have := HFX0.out; omega)
                    have HHN : Hid (y1 = y1 + (if lfM d S (Q : Int) (i + 1) = y2 then 0 else m2)) := hid (by unfold lfM; rw [HSI.out]; simp only; rw [if_pos hmq, HFS.out, if_pos hff]; omega)
                    have hd1 : ((A : Int) == (J : Int)) = true := by simp; omega
                    have hd2 : (sm == (Q : Int)) = true := by simp; omega
                    have hd3 : (fs != y2) = false := by simp; omega
                    clear hj hmq hff
                    go_wp2
                    have HL3 := hid (L3.mk (HLW.out.below ((Below.refl _ _).alloc (Nat.le_refl _) (.cells #[.int .i64 (A : Int), .int .i64 (B : Int), .int .i64 sm, .int .i64 sb, .int .i64 sf] 36 (0, 0)))) (CB.new (w := wo) #[.int .i64 (A : Int), .int .i64 (B : Int), .int .i64 sm, .int .i64 sb, .int .i64 sf] 36))
                    generalize wo.alloc (.cells #[.int .i64 (A : Int), .int .i64 (B : Int), .int .i64 sm, .int .i64 sb, .int .i64 sf] 36 (0, 0)) = W1 at HL3 ⊢
                    generalize wo.heap.size = SX at HL3 ⊢
                    clear c0 c1 c2 c3 c4 HLW
                    have s0 := (HL3.out.s.cell 0).trans rfl
                    have s2 := (HL3.out.s.cell 2).trans rfl
                    have s4 := (HL3.out.s.cell 4).trans rfl
                    have s1 := (HL3.out.s.cell 1).trans rfl
                    have tx0 := (HL3.out.l.t.cell 0).trans rfl
                    have tx1 := (HL3.out.l.t.cell 1).trans rfl
                    have tx2 := (HL3.out.l.t.cell 2).trans rfl
                    have d0 := keep_cell HL3.out.l.a.bel HOC.out
                    have g2 := keep_cell HL3.out.l.a.bel HMC2.out
                    go_quiet (fail)
                    have HLn := hid (HL3.out.below (bd_N (Below.refl _ _) nq))
                    generalize W1.drewN nq = W2 at HLn ⊢
                    clear HL3
                    have HL3 := HLn
                    clear HLn
                    clear s0 s1 s2 s4 tx0 tx1 tx2 d0 g2
                    have s0 := (HL3.out.s.cell 0).trans rfl
                    have s2 := (HL3.out.s.cell 2).trans rfl
                    have s4 := (HL3.out.s.cell 4).trans rfl
                    have s1 := (HL3.out.s.cell 1).trans rfl
                    have tx0 := (HL3.out.l.t.cell 0).trans rfl
                    have tx1 := (HL3.out.l.t.cell 1).trans rfl
                    have tx2 := (HL3.out.l.t.cell 2).trans rfl
                    have d0 := keep_cell HL3.out.l.a.bel HOC.out
                    have g2 := keep_cell HL3.out.l.a.bel HMC2.out
                    go_wp2_with (go_at_call 53; refine (HQ1.out _).mono ?_; rintro e w4 ⟨rfl, ew⟩; replace ew := ew.symm; subst ew)
                    have f1 := keep_cell HL3.out.l.a.bel HFC.out.1
                    have f2 := keep_cell HL3.out.l.a.bel HFC.out.2
                    go_quiet (fail)
                    have HLn := hid (HL3.out.below (bd_N (Below.refl _ _) nq))
                    generalize W2.drewN nq = W3 at HLn ⊢
                    clear HL3
                    have HL3 := HLn
                    clear HLn
                    clear s0 s1 s2 s4 tx0 tx1 tx2 d0 g2 f1 f2
                    have s0 := (HL3.out.s.cell 0).trans rfl
                    have s2 := (HL3.out.s.cell 2).trans rfl
                    have s4 := (HL3.out.s.cell 4).trans rfl
                    have s1 := (HL3.out.s.cell 1).trans rfl
                    have tx0 := (HL3.out.l.t.cell 0).trans rfl
                    have tx1 := (HL3.out.l.t.cell 1).trans rfl
                    have tx2 := (HL3.out.l.t.cell 2).trans rfl
                    have d0 := keep_cell HL3.out.l.a.bel HOC.out
                    have g2 := keep_cell HL3.out.l.a.bel HMC2.out
                    go_wp2
                    go_roundw
                    case rel => exact ⟨i + 1, fx, y1, by omega, rfl, rfl, by go_num, HFN, HHN, HL3.out.l⟩
                    case measure => simp [intOf]; omega
                  · skip
                    have HFN : Hid (fx = max rd (max (mxJ S (J : Int) (i + 1)) (mxM S (Q : Int) (i + 1)))) := hid (by unfold mxJ mxM; rw [HSI.out]; simp only; rw [if_neg hj, if_pos hmq]; have := HFR.out; have := HFX0.out; omega)
                    have HHN : Hid (y1 = y1 + (if lfM d S (Q : Int) (i + 1) = y2 then 0 else m2)) := hid (by unfold lfM; rw [HSI.out]; simp only; rw [if_pos hmq, HFS.out, if_pos hff]; omega)
                    have hd1 : ((A : Int) == (J : Int)) = false := by simp; omega
                    have hd2 : (sm == (Q : Int)) = true := by simp; omega
                    have hd3 : (fs != y2) = false := by simp; omega
                    clear hj hmq hff
                    go_wp2
                    have HL3 := hid (L3.mk (HLW.out.below ((Below.refl _ _).alloc (Nat.le_refl _) (.cells #[.int .i64 (A : Int), .int .i64 (B : Int), .int .i64 sm, .int .i64 sb, .int .i64 sf] 36 (0, 0)))) (CB.new (w := wo) #[.int .i64 (A : Int), .int .i64 (B : Int), .int .i64 sm, .int .i64 sb, .int .i64 sf] 36))
                    generalize wo.alloc (.cells #[.int .i64 (A : Int), .int .i64 (B : Int), .int .i64 sm, .int .i64 sb, .int .i64 sf] 36 (0, 0)) = W1 at HL3 ⊢
                    generalize wo.heap.size = SX at HL3 ⊢
                    clear c0 c1 c2 c3 c4 HLW
                    have s0 := (HL3.out.s.cell 0).trans rfl
                    have s2 := (HL3.out.s.cell 2).trans rfl
                    have s4 := (HL3.out.s.cell 4).trans rfl
                    have s1 := (HL3.out.s.cell 1).trans rfl
                    have tx0 := (HL3.out.l.t.cell 0).trans rfl
                    have tx1 := (HL3.out.l.t.cell 1).trans rfl
                    have tx2 := (HL3.out.l.t.cell 2).trans rfl
                    have d0 := keep_cell HL3.out.l.a.bel HOC.out
                    have g2 := keep_cell HL3.out.l.a.bel HMC2.out
                    go_quiet (fail)
                    have HLn := hid (HL3.out.below (bd_N (Below.refl _ _) nq))
                    generalize W1.drewN nq = W2 at HLn ⊢
                    clear HL3
                    have HL3 := HLn
                    clear HLn
                    clear s0 s1 s2 s4 tx0 tx1 tx2 d0 g2
                    have s0 := (HL3.out.s.cell 0).trans rfl
                    have s2 := (HL3.out.s.cell 2).trans rfl
                    have s4 := (HL3.out.s.cell 4).trans rfl
                    have s1 := (HL3.out.s.cell 1).trans rfl
                    have tx0 := (HL3.out.l.t.cell 0).trans rfl
                    have tx1 := (HL3.out.l.t.cell 1).trans rfl
                    have tx2 := (HL3.out.l.t.cell 2).trans rfl
                    have d0 := keep_cell HL3.out.l.a.bel HOC.out
                    have g2 := keep_cell HL3.out.l.a.bel HMC2.out
                    go_wp2_with (go_at_call 53; refine (HQ1.out _).mono ?_; rintro e w4 ⟨rfl, ew⟩; replace ew := ew.symm; subst ew)
                    have f1 := keep_cell HL3.out.l.a.bel HFC.out.1
                    have f2 := keep_cell HL3.out.l.a.bel HFC.out.2
                    go_quiet (fail)
                    have HLn := hid (HL3.out.below (bd_N (Below.refl _ _) nq))
                    generalize W2.drewN nq = W3 at HLn ⊢
                    clear HL3
                    have HL3 := HLn
                    clear HLn
                    clear s0 s1 s2 s4 tx0 tx1 tx2 d0 g2 f1 f2
                    have s0 := (HL3.out.s.cell 0).trans rfl
                    have s2 := (HL3.out.s.cell 2).trans rfl
                    have s4 := (HL3.out.s.cell 4).trans rfl
                    have s1 := (HL3.out.s.cell 1).trans rfl
                    have tx0 := (HL3.out.l.t.cell 0).trans rfl
                    have tx1 := (HL3.out.l.t.cell 1).trans rfl
                    have tx2 := (HL3.out.l.t.cell 2).trans rfl
                    have d0 := keep_cell HL3.out.l.a.bel HOC.out
                    have g2 := keep_cell HL3.out.l.a.bel HMC2.out
                    go_wp2
                    go_roundw
                    case rel => exact ⟨i + 1, fx, y1, by omega, rfl, rfl, by go_num, HFN, HHN, HL3.out.l⟩
                    case measure => simp [intOf]; omega
                · by_cases hj : (A : Int) = (J : Int)
                  · skip
                    have HFN : Hid (fx = max rd (max (mxJ S (J : Int) (i + 1)) (mxM S (Q : Int) (i + 1)))) := hid (by unfold mxJ mxM; rw [HSI.out]; simp only; rw [if_pos hj, if_pos hmq]; have := HFR.out; have := HFX0.out; omega)
                    have HHN : Hid (y1 + m2 = y1 + (if lfM d S (Q : Int) (i + 1) = y2 then 0 else m2)) := hid (by unfold lfM; rw [HSI.out]; simp only; rw [if_pos hmq, HFS.out, if_neg hff]; skip)
                    have hd1 : ((A : Int) == (J : Int)) = true := by simp; omega
                    have hd2 : (sm == (Q : Int)) = true := by simp; omega
                    have hd3 : (fs != y2) = true := by simp; omega
                    clear hj hmq hff
                    go_wp2
                    have HL3 := hid (L3.mk (HLW.out.below ((Below.refl _ _).alloc (Nat.le_refl _) (.cells #[.int .i64 (A : Int), .int .i64 (B : Int), .int .i64 sm, .int .i64 sb, .int .i64 sf] 36 (0, 0)))) (CB.new (w := wo) #[.int .i64 (A : Int), .int .i64 (B : Int), .int .i64 sm, .int .i64 sb, .int .i64 sf] 36))
                    generalize wo.alloc (.cells #[.int .i64 (A : Int), .int .i64 (B : Int), .int .i64 sm, .int .i64 sb, .int .i64 sf] 36 (0, 0)) = W1 at HL3 ⊢
                    generalize wo.heap.size = SX at HL3 ⊢
                    clear c0 c1 c2 c3 c4 HLW
                    have s0 := (HL3.out.s.cell 0).trans rfl
                    have s2 := (HL3.out.s.cell 2).trans rfl
                    have s4 := (HL3.out.s.cell 4).trans rfl
                    have s1 := (HL3.out.s.cell 1).trans rfl
                    have tx0 := (HL3.out.l.t.cell 0).trans rfl
                    have tx1 := (HL3.out.l.t.cell 1).trans rfl
                    have tx2 := (HL3.out.l.t.cell 2).trans rfl
                    have d0 := keep_cell HL3.out.l.a.bel HOC.out
                    have g2 := keep_cell HL3.out.l.a.bel HMC2.out
                    go_quiet (fail)
                    have HLn := hid (HL3.out.below (bd_N (Below.refl _ _) nq))
                    generalize W1.drewN nq = W2 at HLn ⊢
                    clear HL3
                    have HL3 := HLn
                    clear HLn
                    clear s0 s1 s2 s4 tx0 tx1 tx2 d0 g2
                    have s0 := (HL3.out.s.cell 0).trans rfl
                    have s2 := (HL3.out.s.cell 2).trans rfl
                    have s4 := (HL3.out.s.cell 4).trans rfl
                    have s1 := (HL3.out.s.cell 1).trans rfl
                    have tx0 := (HL3.out.l.t.cell 0).trans rfl
                    have tx1 := (HL3.out.l.t.cell 1).trans rfl
                    have tx2 := (HL3.out.l.t.cell 2).trans rfl
                    have d0 := keep_cell HL3.out.l.a.bel HOC.out
                    have g2 := keep_cell HL3.out.l.a.bel HMC2.out
                    go_wp2_with (go_at_call 53; refine (HQ1.out _).mono ?_; rintro e w4 ⟨rfl, ew⟩; replace ew := ew.symm; subst ew)
                    have f1 := keep_cell HL3.out.l.a.bel HFC.out.1
                    have f2 := keep_cell HL3.out.l.a.bel HFC.out.2
                    go_quiet (fail)
                    have HLn := hid (HL3.out.below (bd_N (Below.refl _ _) nq))
                    generalize W2.drewN nq = W3 at HLn ⊢
                    clear HL3
                    have HL3 := HLn
                    clear HLn
                    clear s0 s1 s2 s4 tx0 tx1 tx2 d0 g2 f1 f2
                    have s0 := (HL3.out.s.cell 0).trans rfl
                    have s2 := (HL3.out.s.cell 2).trans rfl
                    have s4 := (HL3.out.s.cell 4).trans rfl
                    have s1 := (HL3.out.s.cell 1).trans rfl
                    have tx0 := (HL3.out.l.t.cell 0).trans rfl
                    have tx1 := (HL3.out.l.t.cell 1).trans rfl
                    have tx2 := (HL3.out.l.t.cell 2).trans rfl
                    have d0 := keep_cell HL3.out.l.a.bel HOC.out
                    have g2 := keep_cell HL3.out.l.a.bel HMC2.out
                    have hwr : IntKind.i64.wrap (y1 + m2) = y1 + m2 := IntWalk.i64_in _ ⟨by omega, by omega⟩
                    go_wp2
                    go_roundw
                    case rel => exact ⟨i + 1, fx, y1 + m2, by omega, rfl, by go_num, by go_num, HFN, HHN, HL3.out.l⟩
                    case measure => simp [intOf]; omega
                  · skip
                    have HFN : Hid (fx = max rd (max (mxJ S (J : Int) (i + 1)) (mxM S (Q : Int) (i + 1)))) := hid (by unfold mxJ mxM; rw [HSI.out]; simp only; rw [if_neg hj, if_pos hmq]; have := HFR.out; have := HFX0.out; omega)
                    have HHN : Hid (y1 + m2 = y1 + (if lfM d S (Q : Int) (i + 1) = y2 then 0 else m2)) := hid (by unfold lfM; rw [HSI.out]; simp only; rw [if_pos hmq, HFS.out, if_neg hff]; skip)
                    have hd1 : ((A : Int) == (J : Int)) = false := by simp; omega
                    have hd2 : (sm == (Q : Int)) = true := by simp; omega
                    have hd3 : (fs != y2) = true := by simp; omega
                    clear hj hmq hff
                    go_wp2
                    have HL3 := hid (L3.mk (HLW.out.below ((Below.refl _ _).alloc (Nat.le_refl _) (.cells #[.int .i64 (A : Int), .int .i64 (B : Int), .int .i64 sm, .int .i64 sb, .int .i64 sf] 36 (0, 0)))) (CB.new (w := wo) #[.int .i64 (A : Int), .int .i64 (B : Int), .int .i64 sm, .int .i64 sb, .int .i64 sf] 36))
                    generalize wo.alloc (.cells #[.int .i64 (A : Int), .int .i64 (B : Int), .int .i64 sm, .int .i64 sb, .int .i64 sf] 36 (0, 0)) = W1 at HL3 ⊢
                    generalize wo.heap.size = SX at HL3 ⊢
                    clear c0 c1 c2 c3 c4 HLW
                    have s0 := (HL3.out.s.cell 0).trans rfl
                    have s2 := (HL3.out.s.cell 2).trans rfl
                    have s4 := (HL3.out.s.cell 4).trans rfl
                    have s1 := (HL3.out.s.cell 1).trans rfl
                    have tx0 := (HL3.out.l.t.cell 0).trans rfl
                    have tx1 := (HL3.out.l.t.cell 1).trans rfl
                    have tx2 := (HL3.out.l.t.cell 2).trans rfl
                    have d0 := keep_cell HL3.out.l.a.bel HOC.out
                    have g2 := keep_cell HL3.out.l.a.bel HMC2.out
                    go_quiet (fail)
                    have HLn := hid (HL3.out.below (bd_N (Below.refl _ _) nq))
                    generalize W1.drewN nq = W2 at HLn ⊢
                    clear HL3
                    have HL3 := HLn
                    clear HLn
                    clear s0 s1 s2 s4 tx0 tx1 tx2 d0 g2
                    have s0 := (HL3.out.s.cell 0).trans rfl
                    have s2 := (HL3.out.s.cell 2).trans rfl
                    have s4 := (HL3.out.s.cell 4).trans rfl
                    have s1 := (HL3.out.s.cell 1).trans rfl
                    have tx0 := (HL3.out.l.t.cell 0).trans rfl
                    have tx1 := (HL3.out.l.t.cell 1).trans rfl
                    have tx2 := (HL3.out.l.t.cell 2).trans rfl
                    have d0 := keep_cell HL3.out.l.a.bel HOC.out
                    have g2 := keep_cell HL3.out.l.a.bel HMC2.out
                    go_wp2_with (go_at_call 53; refine (HQ1.out _).mono ?_; rintro e w4 ⟨rfl, ew⟩; replace ew := ew.symm; subst ew)
                    have f1 := keep_cell HL3.out.l.a.bel HFC.out.1
                    have f2 := keep_cell HL3.out.l.a.bel HFC.out.2
                    go_quiet (fail)
                    have HLn := hid (HL3.out.below (bd_N (Below.refl _ _) nq))
                    generalize W2.drewN nq = W3 at HLn ⊢
                    clear HL3
                    have HL3 := HLn
                    clear HLn
                    clear s0 s1 s2 s4 tx0 tx1 tx2 d0 g2 f1 f2
                    have s0 := (HL3.out.s.cell 0).trans rfl
                    have s2 := (HL3.out.s.cell 2).trans rfl
                    have s4 := (HL3.out.s.cell 4).trans rfl
                    have s1 := (HL3.out.s.cell 1).trans rfl
                    have tx0 := (HL3.out.l.t.cell 0).trans rfl
                    have tx1 := (HL3.out.l.t.cell 1).trans rfl
                    have tx2 := (HL3.out.l.t.cell 2).trans rfl
                    have d0 := keep_cell HL3.out.l.a.bel HOC.out
                    have g2 := keep_cell HL3.out.l.a.bel HMC2.out
                    have hwr : IntKind.i64.wrap (y1 + m2) = y1 + m2 := IntWalk.i64_in _ ⟨by omega, by omega⟩
                    go_wp2
                    go_roundw
                    case rel => exact ⟨i + 1, fx, y1 + m2, by omega, rfl, by go_num, by go_num, HFN, HHN, HL3.out.l⟩
                    case measure => simp [intOf]; omega
              · by_cases hj : (A : Int) = (J : Int)
                · skip
                  have HFN : Hid (fx = max rd (max (mxJ S (J : Int) (i + 1)) (mxM S (Q : Int) (i + 1)))) := hid (by unfold mxJ mxM; rw [HSI.out]; simp only; rw [if_pos hj, if_neg hmq]; have := HFR.out; have := HFX0.out; omega)
                  have HHN : Hid (hr = y1 + (if lfM d S (Q : Int) (i + 1) = y2 then 0 else m2)) := hid (by unfold lfM; rw [HSI.out]; simp only; rw [if_neg hmq]; exact HHR.out)
                  have hd1 : ((A : Int) == (J : Int)) = true := by simp; omega
                  have hd2 : (sm == (Q : Int)) = false := by simp; omega
                  clear hj hmq
                  go_wp2
                  have HL3 := hid (L3.mk (HLW.out.below ((Below.refl _ _).alloc (Nat.le_refl _) (.cells #[.int .i64 (A : Int), .int .i64 (B : Int), .int .i64 sm, .int .i64 sb, .int .i64 sf] 36 (0, 0)))) (CB.new (w := wo) #[.int .i64 (A : Int), .int .i64 (B : Int), .int .i64 sm, .int .i64 sb, .int .i64 sf] 36))
                  generalize wo.alloc (.cells #[.int .i64 (A : Int), .int .i64 (B : Int), .int .i64 sm, .int .i64 sb, .int .i64 sf] 36 (0, 0)) = W1 at HL3 ⊢
                  generalize wo.heap.size = SX at HL3 ⊢
                  clear c0 c1 c2 c3 c4 HLW
                  have s0 := (HL3.out.s.cell 0).trans rfl
                  have s2 := (HL3.out.s.cell 2).trans rfl
                  have s4 := (HL3.out.s.cell 4).trans rfl
                  have s1 := (HL3.out.s.cell 1).trans rfl
                  have tx0 := (HL3.out.l.t.cell 0).trans rfl
                  have tx1 := (HL3.out.l.t.cell 1).trans rfl
                  have tx2 := (HL3.out.l.t.cell 2).trans rfl
                  have d0 := keep_cell HL3.out.l.a.bel HOC.out
                  have g2 := keep_cell HL3.out.l.a.bel HMC2.out
                  go_quiet (fail)
                  have HLn := hid (HL3.out.below (bd_N (Below.refl _ _) nq))
                  generalize W1.drewN nq = W2 at HLn ⊢
                  clear HL3
                  have HL3 := HLn
                  clear HLn
                  clear s0 s1 s2 s4 tx0 tx1 tx2 d0 g2
                  have s0 := (HL3.out.s.cell 0).trans rfl
                  have s2 := (HL3.out.s.cell 2).trans rfl
                  have s4 := (HL3.out.s.cell 4).trans rfl
                  have s1 := (HL3.out.s.cell 1).trans rfl
                  have tx0 := (HL3.out.l.t.cell 0).trans rfl
                  have tx1 := (HL3.out.l.t.cell 1).trans rfl
                  have tx2 := (HL3.out.l.t.cell 2).trans rfl
                  have d0 := keep_cell HL3.out.l.a.bel HOC.out
                  have g2 := keep_cell HL3.out.l.a.bel HMC2.out
                  go_wp2_with (go_at_call 53; refine (HQ1.out _).mono ?_; rintro e w4 ⟨rfl, ew⟩; replace ew := ew.symm; subst ew)
                  go_roundw
                  case rel => exact ⟨i + 1, fx, hr, by omega, rfl, rfl, by go_num, HFN, HHN, HL3.out.l⟩
                  case measure => simp [intOf]; omega
                · skip
                  have HFN : Hid (fr = max rd (max (mxJ S (J : Int) (i + 1)) (mxM S (Q : Int) (i + 1)))) := hid (by unfold mxJ mxM; rw [HSI.out]; simp only; rw [if_neg hj, if_neg hmq]; have := HFR.out; have := HFX0.out; omega)
                  have HHN : Hid (hr = y1 + (if lfM d S (Q : Int) (i + 1) = y2 then 0 else m2)) := hid (by unfold lfM; rw [HSI.out]; simp only; rw [if_neg hmq]; exact HHR.out)
                  have hd1 : ((A : Int) == (J : Int)) = false := by simp; omega
                  have hd2 : (sm == (Q : Int)) = false := by simp; omega
                  clear hj hmq
                  go_wp2
                  have HL3 := hid (L3.mk (HLW.out.below ((Below.refl _ _).alloc (Nat.le_refl _) (.cells #[.int .i64 (A : Int), .int .i64 (B : Int), .int .i64 sm, .int .i64 sb, .int .i64 sf] 36 (0, 0)))) (CB.new (w := wo) #[.int .i64 (A : Int), .int .i64 (B : Int), .int .i64 sm, .int .i64 sb, .int .i64 sf] 36))
                  generalize wo.alloc (.cells #[.int .i64 (A : Int), .int .i64 (B : Int), .int .i64 sm, .int .i64 sb, .int .i64 sf] 36 (0, 0)) = W1 at HL3 ⊢
                  generalize wo.heap.size = SX at HL3 ⊢
                  clear c0 c1 c2 c3 c4 HLW
                  have s0 := (HL3.out.s.cell 0).trans rfl
                  have s2 := (HL3.out.s.cell 2).trans rfl
                  have s4 := (HL3.out.s.cell 4).trans rfl
                  have s1 := (HL3.out.s.cell 1).trans rfl
                  have tx0 := (HL3.out.l.t.cell 0).trans rfl
                  have tx1 := (HL3.out.l.t.cell 1).trans rfl
                  have tx2 := (HL3.out.l.t.cell 2).trans rfl
                  have d0 := keep_cell HL3.out.l.a.bel HOC.out
                  have g2 := keep_cell HL3.out.l.a.bel HMC2.out
                  go_quiet (fail)
                  have HLn := hid (HL3.out.below (bd_N (Below.refl _ _) nq))
                  generalize W1.drewN nq = W2 at HLn ⊢
                  clear HL3
                  have HL3 := HLn
                  clear HLn
                  clear s0 s1 s2 s4 tx0 tx1 tx2 d0 g2
                  have s0 := (HL3.out.s.cell 0).trans rfl
                  have s2 := (HL3.out.s.cell 2).trans rfl
                  have s4 := (HL3.out.s.cell 4).trans rfl
                  have s1 := (HL3.out.s.cell 1).trans rfl
                  have tx0 := (HL3.out.l.t.cell 0).trans rfl
                  have tx1 := (HL3.out.l.t.cell 1).trans rfl
                  have tx2 := (HL3.out.l.t.cell 2).trans rfl
                  have d0 := keep_cell HL3.out.l.a.bel HOC.out
                  have g2 := keep_cell HL3.out.l.a.bel HMC2.out
                  go_wp2
                  go_roundw
                  case rel => exact ⟨i + 1, fr, hr, by omega, rfl, rfl, by go_num, HFN, HHN, HL3.out.l⟩
                  case measure => simp [intOf]; omega
            · obtain rfl : KK = i := by omega
              have lkk : ¬ (KK : Int) < (KK : Int) := by omega
              have HONE1 : Hid (S KK = ⟨(J : Int), (t1 : Int), (Q : Int), ocB ⟨m0, m1, m2⟩ fr hr, ocF ⟨m0, m1, m2⟩ fr hr⟩) := hid (by
                rw [HONE0.out]
                unfold oneS frV hrV
                rw [HNM.out.1, Int.toNat_natCast, HNM.out.2.1, HNM.out.2.2.1, HNM.out.2.2.2, HRD.out, ← HFR.out, ← HHR.out])
              have hoc := oc_bd (r := ⟨m0, m1, m2⟩) (f := fr) (q := hr)
              obtain ⟨BV, hBV⟩ : ∃ y, ocB ⟨m0, m1, m2⟩ fr hr = y := ⟨_, rfl⟩
              obtain ⟨EV, hEV⟩ : ∃ y, ocF ⟨m0, m1, m2⟩ fr hr = y := ⟨_, rfl⟩
              have HOCC : Hid (∀ W : World, Calls Try.prog 32 #[.agg #[.int .i64 m0, .int .i64 m1, .int .i64 m2], .int .i64 fr, .int .i64 hr] W fun e w' => e = .returned (.tuple #[.int .i64 BV, .int .i64 EV]) ∧ Below W.heap.size W w') := fun W => by
                have := specOccupy_any ⟨m0, m1, m2⟩ fr hr W
                rw [hBV, hEV] at this; exact this
              rw [hBV, hEV] at hoc
              have HONE : Hid (S KK = ⟨(J : Int), (t1 : Int), (Q : Int), BV, EV⟩) := hid (by rw [HONE1.out, hBV, hEV])
              clear hBV hEV HONE1
              have t0 := (HLW.out.t.cell 0).trans rfl
              have g0 := keep_cell HLW.out.a.bel HMC01.out.1
              have g1 := keep_cell HLW.out.a.bel HMC01.out.2
              have g2 := keep_cell HLW.out.a.bel HMC2.out
              by_cases hneg : BV < 0
              · have HNO : Hid (V1 = false ∧ V2 = 0) := hid (HZ.out fun h => by
                  have := h n1 t1 hlt (by rw [HJ.out, HNN.out]; exact htt)
                  rw [HKV.out, HONE.out] at this
                  simp only at this
                  omega)
                obtain ⟨rfl, rfl⟩ := HNO.out
                go_wp2_with (go_at_call 32; refine (HOCC.out _).mono ?_; rintro e w6 ⟨rfl, b6⟩; have HB6 : Hid (Below w.heap.size w w6) := bel_on HLW.out.a.bel b6; clear b6)
                go_returns
                first | exact ⟨_, _, rfl, ownSL_n, HB6.out.alloc HB6.out.size _⟩ | exact ⟨_, ⟨_, rfl⟩, ownSL_n, HB6.out.alloc HB6.out.size _⟩
              · have hE0 : 0 ≤ EV := by omega
                have HG2 : Hid (GdP d o S n1 (t1 + 1)) := hid ⟨HGD.out.1, fun t' h => by
                  by_cases q : t' = t1
                  · subst q; rw [HKV.out, HONE.out]; exact hE0
                  · exact HGD.out.2 t' (by omega)⟩
                go_wp2_with (go_at_call 32; refine (HOCC.out _).mono ?_; rintro e w6 ⟨rfl, b6⟩; have HL6 := hid (HLW.out.below b6); clear b6)
                clear t0 g0 g1 g2 hoc hneg HLW
                have HLd := hid (HL6.out.below (Below.refl _ _).drew)
                have HS0 : Hid (w6.drew.cell? ⟨ob, oo + n1, none⟩ = some (.int .i64 (J : Int)) ∧ w6.drew.cell? ⟨TB, 0, none⟩ = some (.int .i64 (Q : Int))) := hid ⟨keep_cell HLd.out.a.bel HOC.out, (HLd.out.t.cell 0).trans rfl⟩
                refine wp_region_noPanic ?_
                refine wp_region_held_drew (S := fun w' => w'.cell? ⟨ob, oo + n1, none⟩ = some (.int .i64 (J : Int)) ∧ w'.cell? ⟨TB, 0, none⟩ = some (.int .i64 (Q : Int))) (by kernel_rfl) (by exact HS0.out) (fun hHeld => ?_)
                refine wpAnyH_take (i := 0) (oi := { dst := some 139, op := Go.Op.move (Go.Operand.tmp 8), type := 29, pos := "l19_load.go:118", after := #[], guard := none }) (v := ?_) rfl (by kernel_rfl) (by kernel_rfl) (by kernel_rfl) (fun _ _ _ h => h) (Or.inl ⟨by rfl, ?_⟩) (by assumption) ?_
                rotate_left
                · (intro w hSw; (try dsimp only at hSw); go_simp <;> try with_reducible rfl)
                try simp only [Act.put, List.setIfInBounds_toArray, List.set_cons_zero, List.set_cons_succ]
                refine wpAnyH_take (i := 1) (oi := { dst := some 140, op := Go.Op.move (Go.Operand.tmp 2), type := 26, pos := "l19_load.go:118", after := #[], guard := none }) (v := ?_) rfl (by kernel_rfl) (by kernel_rfl) (by kernel_rfl) (fun _ _ _ h => h) (Or.inl ⟨by rfl, ?_⟩) (by assumption) ?_
                rotate_left
                · (intro w hSw; (try dsimp only at hSw); go_simp <;> try with_reducible rfl)
                try simp only [Act.put, List.setIfInBounds_toArray, List.set_cons_zero, List.set_cons_succ]
                refine wpAnyH_take (i := 2) (oi := { dst := some 141, op := Go.Op.move (Go.Operand.tmp 9), type := 3, pos := "l19_load.go:118", after := #[], guard := none }) (v := ?_) rfl (by kernel_rfl) (by kernel_rfl) (by kernel_rfl) (fun _ _ _ h => h) (Or.inl ⟨by rfl, ?_⟩) (by assumption) ?_
                rotate_left
                · (intro w hSw; (try dsimp only at hSw); go_simp <;> try with_reducible rfl)
                try simp only [Act.put, List.setIfInBounds_toArray, List.set_cons_zero, List.set_cons_succ]
                refine wpAnyH_take (i := 3) (oi := { dst := some 142, op := Go.Op.indexAddr 26 (Go.Operand.tmp 140) (Go.Operand.tmp 141), type := 0, pos := "l19_load.go:118", after := #[{ on := 1, ground := Go.Ground.data }, { on := 2, ground := Go.Ground.data }], guard := none }) (v := ?_) rfl (by kernel_rfl) (by kernel_rfl) (by kernel_rfl) (fun _ _ _ h => h) (Or.inl ⟨by rfl, ?_⟩) (by assumption) ?_
                rotate_left
                · (intro w hSw; (try dsimp only at hSw); go_simp <;> try with_reducible rfl)
                try simp only [Act.put, List.setIfInBounds_toArray, List.set_cons_zero, List.set_cons_succ]
                refine wpAnyH_take (i := 4) (oi := { dst := some 143, op := Go.Op.load 3 (Go.Operand.tmp 142), type := 3, pos := "l19_load.go:118", after := #[{ on := 3, ground := Go.Ground.data }], guard := none }) (v := ?_) rfl (by kernel_rfl) (by kernel_rfl) (by kernel_rfl) (fun _ _ _ h => h) (Or.inl ⟨by rfl, ?_⟩) (by assumption) ?_
                rotate_left
                · (intro w hSw; (try dsimp only at hSw); go_simp <;> try with_reducible rfl)
                try simp only [Act.put, List.setIfInBounds_toArray, List.set_cons_zero, List.set_cons_succ]
                refine wpAnyH_take (i := 5) (oi := { dst := some 144, op := Go.Op.move (Go.Operand.tmp 11), type := 3, pos := "l19_load.go:118", after := #[], guard := none }) (v := ?_) rfl (by kernel_rfl) (by kernel_rfl) (by kernel_rfl) (fun _ _ _ h => h) (Or.inl ⟨by rfl, ?_⟩) (by assumption) ?_
                rotate_left
                · (intro w hSw; (try dsimp only at hSw); go_simp <;> try with_reducible rfl)
                try simp only [Act.put, List.setIfInBounds_toArray, List.set_cons_zero, List.set_cons_succ]
                refine wpAnyH_take (i := 6) (oi := { dst := some 145, op := Go.Op.fieldAddr 38 (Go.Operand.tmp 12) 0, type := 0, pos := "l19_load.go:118", after := #[], guard := none }) (v := ?_) rfl (by kernel_rfl) (by kernel_rfl) (by kernel_rfl) (fun _ _ _ h => h) (Or.inl ⟨by rfl, ?_⟩) (by assumption) ?_
                rotate_left
                · (intro w hSw; (try dsimp only at hSw); go_simp <;> try with_reducible rfl)
                try simp only [Act.put, List.setIfInBounds_toArray, List.set_cons_zero, List.set_cons_succ]
                refine wpAnyH_take (i := 7) (oi := { dst := some 146, op := Go.Op.load 3 (Go.Operand.tmp 145), type := 3, pos := "l19_load.go:118", after := #[{ on := 6, ground := Go.Ground.data }], guard := none }) (v := ?_) rfl (by kernel_rfl) (by kernel_rfl) (by kernel_rfl) (fun _ _ _ h => h) (Or.inl ⟨by rfl, ?_⟩) (by assumption) ?_
                rotate_left
                · (intro w hSw; (try dsimp only at hSw); go_simp <;> try with_reducible rfl)
                try simp only [Act.put, List.setIfInBounds_toArray, List.set_cons_zero, List.set_cons_succ]
                refine wpAnyH_take (i := 8) (oi := { dst := some 147, op := Go.Op.move (Go.Operand.tmp 17), type := 3, pos := "l19_load.go:118", after := #[], guard := none }) (v := ?_) rfl (by kernel_rfl) (by kernel_rfl) (by kernel_rfl) (fun _ _ _ h => h) (Or.inl ⟨by rfl, ?_⟩) (by assumption) ?_
                rotate_left
                · (intro w hSw; (try dsimp only at hSw); go_simp <;> try with_reducible rfl)
                try simp only [Act.put, List.setIfInBounds_toArray, List.set_cons_zero, List.set_cons_succ]
                refine wpAnyH_take (i := 9) (oi := { dst := some 148, op := Go.Op.move (Go.Operand.tmp 18), type := 3, pos := "l19_load.go:118", after := #[], guard := none }) (v := ?_) rfl (by kernel_rfl) (by kernel_rfl) (by kernel_rfl) (fun _ _ _ h => h) (Or.inl ⟨by rfl, ?_⟩) (by assumption) ?_
                rotate_left
                · (intro w hSw; (try dsimp only at hSw); go_simp <;> try with_reducible rfl)
                try simp only [Act.put, List.setIfInBounds_toArray, List.set_cons_zero, List.set_cons_succ]
                refine wpAnyH_take (i := 10) (oi := { dst := some 149, op := Go.Op.build 36 #[(0, Go.Operand.tmp 143), (1, Go.Operand.tmp 144), (2, Go.Operand.tmp 146), (3, Go.Operand.tmp 147), (4, Go.Operand.tmp 148)], type := 36, pos := "l19_load.go:118", after := #[{ on := 4, ground := Go.Ground.data }, { on := 5, ground := Go.Ground.data }, { on := 7, ground := Go.Ground.data }, { on := 8, ground := Go.Ground.data }, { on := 9, ground := Go.Ground.data }], guard := none }) (v := ?_) rfl (by kernel_rfl) (by kernel_rfl) (by kernel_rfl) (fun _ _ _ h => h) (Or.inl ⟨by rfl, ?_⟩) (by assumption) ?_
                rotate_left
                · (intro w hSw; (try dsimp only at hSw); go_simp <;> try with_reducible rfl)
                try simp only [Act.put, List.setIfInBounds_toArray, List.set_cons_zero, List.set_cons_succ]
                refine wpAnyH_ready (rs := [11]) (by kernel_rfl) (by simp) ?_
                refine AllReadyH.cons (o := { dst := some 150, op := Go.Op.buildSlice 29 1 #[(0, Go.Operand.tmp 149)], type := 29, pos := "l19_load.go:118", after := #[{ on := 10, ground := Go.Ground.data }], guard := none }) rfl (fun K hK => ?_) (AllReadyH.nil)
                go_simp
                have PA := hid (HL6.out.below (((Below.refl _ _).alloc (Nat.le_refl _) (.cells #[.int .i64 (J : Int), .int .i64 (t1 : Int), .int .i64 (Q : Int), .int .i64 BV, .int .i64 EV] 36 (0, 0))).drew))
                have HSa : Hid (((w6.alloc (.cells #[.int .i64 (J : Int), .int .i64 (t1 : Int), .int .i64 (Q : Int), .int .i64 BV, .int .i64 EV] 36 (0, 0))).drew).cell? ⟨ob, oo + n1, none⟩ = some (.int .i64 (J : Int)) ∧ ((w6.alloc (.cells #[.int .i64 (J : Int), .int .i64 (t1 : Int), .int .i64 (Q : Int), .int .i64 BV, .int .i64 EV] 36 (0, 0))).drew).cell? ⟨TB, 0, none⟩ = some (.int .i64 (Q : Int))) := hid ⟨keep_cell PA.out.a.bel HOC.out, (PA.out.t.cell 0).trans rfl⟩
                refine hK.out _ _ (by exact HSa.out) (fun hHeld => ?_)
                clear hK K
                try simp only [Act.put, List.setIfInBounds_toArray, List.set_cons_zero, List.set_cons_succ]
                refine wpAnyH_ready (rs := [12]) (by kernel_rfl) (by simp) ?_
                refine AllReadyH.cons (o := { dst := some 151, op := Go.Op.call { callee := Go.Callee.builtin Go.Builtin.append, args := #[Go.Operand.tmp 139, Go.Operand.tmp 150], argTypes := #[29, 29] }, type := 29, pos := "l19_load.go:118", after := #[{ on := 0, ground := Go.Ground.data }, { on := 11, ground := Go.Ground.data }], guard := none }) rfl (fun K hK => ?_) (AllReadyH.nil)
                rw [if_pos (by rfl)]
                refine oper_append (Operand.tmp 139) (Operand.tmp 150) 29 rfl w.heap.size 36 i5 (.agg #[.int .i64 0, .int .i64 0, .int .i64 0, .int .i64 0, .int .i64 0]) 5 40 Try.underlying29 hi5 hz50 hz51 hz52 rfl (by decide) (.slice (some ⟨g, 0, none⟩) KK oc) KK (rowSL5 S KK) rfl PA.out.a.own ⟨_, 0, none⟩ 1 1 [.int .i64 (J : Int), .int .i64 (t1 : Int), .int .i64 (Q : Int), .int .i64 BV, .int .i64 EV] rfl rfl (ecells (by first | rfl | simp)) (fun u hu => by simp at hu; rcases hu with rfl | rfl | rfl | rfl | rfl <;> rfl) (by unfold maxLen; omega) (by omega) PA.out.a.bel.size ?_
                intro v9 w9 hown hgrow hat
                obtain ⟨g9, oc9, rfl, _⟩ := eown_some hown (by omega)
                have P9 := hid (PA.out.a.grow (g9 := g9) (oc9 := oc9) hgrow (by rw [rowSL5, HONE.out]; exact hown))
                have PJ := hid (PA.out.a.kept hgrow PA.out.j (by decide))
                have PT := hid (PA.out.a.kept hgrow PA.out.t (by decide))
                have HS9 : Hid (w9.cell? ⟨ob, oo + n1, none⟩ = some (.int .i64 (J : Int)) ∧ w9.cell? ⟨TB, 0, none⟩ = some (.int .i64 (Q : Int))) := hid ⟨keep_cell P9.out.bel HOC.out, (PT.out.cell 0).trans rfl⟩
                clear hown hgrow hat PA HSa
                refine hK.out _ _ (by exact HS9.out) (fun hHeld => ?_)
                clear hK K
                try simp only [Act.put, List.setIfInBounds_toArray, List.set_cons_zero, List.set_cons_succ]
                refine wpAnyH_take (i := 13) (oi := { dst := some 8, op := Go.Op.assign (Go.Operand.tmp 151), type := 29, pos := "l19_load.go:118", after := #[{ on := 12, ground := Go.Ground.data }, { on := 12, ground := Go.Ground.chain }, { on := 0, ground := Go.Ground.phase }, { on := 1, ground := Go.Ground.phase }, { on := 2, ground := Go.Ground.phase }, { on := 3, ground := Go.Ground.phase }, { on := 4, ground := Go.Ground.phase }, { on := 5, ground := Go.Ground.phase }, { on := 6, ground := Go.Ground.phase }, { on := 7, ground := Go.Ground.phase }, { on := 8, ground := Go.Ground.phase }, { on := 9, ground := Go.Ground.phase }, { on := 10, ground := Go.Ground.phase }, { on := 11, ground := Go.Ground.phase }, { on := 12, ground := Go.Ground.phase }], guard := none }) (v := ?_) rfl (by kernel_rfl) (by kernel_rfl) (by kernel_rfl) (fun _ _ _ h => h) (Or.inl ⟨by rfl, ?_⟩) (by assumption) ?_
                rotate_left
                · (intro w hSw; (try dsimp only at hSw); go_simp <;> try with_reducible rfl)
                try simp only [Act.put, List.setIfInBounds_toArray, List.set_cons_zero, List.set_cons_succ]
                refine wpAnyH_done (by kernel_rfl) ?_ _
                refine NoPanic.normal ?_
                clear hHeld HS9 PT HLd HS0
                go_wp2
                go_roundw
                case rel => exact ⟨t1 + 1, g9, oc9, by omega, by go_num, by rw [← HKV.out]; rfl, HG2, by rw [show kN d o n1 + (t1 + 1) = KK + 1 by have := HKV.out; omega]; exact P9.out, PJ.out⟩
                case measure => simp [intOf]; omega
        · obtain rfl : t1 = N := by omega
          have lkk : ¬ (t1 : Int) < (t1 : Int) := by omega
          have hkn : kN d o (n1 + 1) = kN d o n1 + t1 := by show kN d o n1 + (d (o n1).toNat).rn = _; rw [HJ.out, HNN.out]
          have HG2 : Hid (GdP d o S (n1 + 1) 0) := hid ⟨fun n' t' h1 h2 => by
            by_cases q : n' = n1
            · subst q; exact HGD.out.2 t' (by rw [HJ.out, HNN.out] at h2; exact h2)
            · exact HGD.out.1 n' t' (by omega) h2, fun t' h => by omega⟩
          go_wp2
          go_roundw
          case rel => exact ⟨n1 + 1, g, oc, by omega, by go_num, by rw [hkn], HG2, by rw [hkn]; exact HS.out.1⟩
          case measure => simp [intOf]; omega
    · obtain rfl : n1 = no := by omega
      have lkk : ¬ (n1 : Int) < (n1 : Int) := by omega
      obtain ⟨rfl, rfl⟩ := HY.out HGD.out.1
      go_wp2
      go_returns
      first | exact ⟨_, _, rfl, HS.out.fin, HS.out.bel⟩ | exact ⟨_, ⟨_, rfl⟩, HS.out.fin, HS.out.bel⟩
end Go.Proofs.Ytogolmbgboihdaa
