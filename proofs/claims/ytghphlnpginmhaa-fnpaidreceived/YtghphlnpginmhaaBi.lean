/- MatchBill of the model. -/
import Derived.Test.YtghphlnpginmhaaBh
import Derived.Test.YtghphlnpginmhaaRi
import Derived.Maps.AppendAt
import Derived.Deep.QuietTactic
namespace Go.Proofs.Ytghphlnpginmhaa
open Go.ChangeShapes Go.WideShapes Go.ChangeAt Go.RowKit
set_option linter.unusedVariables false
set_option linter.unusedSimpArgs false

/-- A block that was just made has its cells. -/
theorem acells_at {w : World} {b : Nat} {l : List Value} {t : TypeId} (hb : w.heap.size = b) : ∀ j u, l[j]? = some u → (w.alloc (.cells l.toArray t (0, 0))).cell? ((⟨b, 0, none⟩ : Addr).add j) = some u := by
  intro j u hj
  have h := (CB.newAt hb l.toArray t).cell j
  have e : (⟨b, 0, none⟩ : Addr).add j = ⟨b, j, none⟩ := by
    simp only [Addr.add]; by_cases q : j = 0 <;> simp [q]
  rw [e, h]; simpa using hj
theorem bel_grown {B : Nat} {A w w' : World} {row : Option Nat} (h : Below B A w) (hA : B ≤ A.heap.size) (g : w.grownBy w' row) (hr : ∀ r, row = some r → B ≤ r) : Below B A w' :=
  h.trans ⟨g.os, g.tape, g.output, g.size, fun k hk => g.block k (Nat.lt_of_lt_of_le hk (Nat.le_trans hA h.size)) (fun e => by have := hr k e.symm; omega)⟩
theorem own_ge {w : World} {base n : Nat} {t : TypeId} {sz : Nat} {v : Value} {xs : List Value} (h : w.ownsRow base t sz v n xs) : ∀ r, v.ownBlock = some r → base ≤ r := fun r hr => (h.lt r hr).1
/-- What stands by in the model: the tolerance in its box, what was received, the lines told so far (v). -/
structure GI (w : World) (tol : Array Value) (g0 : Nat) (csg : Array Value) (v : Value) (k : Nat) (xs : List Value) (W : World) : Prop where
  bl : Below w.heap.size w W
  t : CB W w.heap.size tol 40
  g : CB W g0 csg 3
  o : W.ownsRow (w.heap.size + 1) 47 4 v k xs
section
variable {w W W' : World} {tol : Array Value} {g0 : Nat} {csg : Array Value} {v v' : Value} {k n : Nat} {xs ys : List Value}
theorem GI.below (h : GI w tol g0 csg v k xs W) (b : Below W.heap.size W W') : GI w tol g0 csg v k xs W' := ⟨bel_on h.bl b, h.t.below b h.t.lt, h.g.below b h.g.lt, row_below h.o b⟩
theorem GI.alloc (h : GI w tol g0 csg v k xs W) (o : Obj) : GI w tol g0 csg v k xs (W.alloc o) := h.below ((Below.refl _ _).alloc (Nat.le_refl _) o)
theorem GI.new (h : GI w tol g0 csg v k xs W) {B o : Nat} (u : Value) (h1 : w.heap.size < B) (h2 : g0 < B) (h3 : ∀ q, v.ownBlock = some q → q < B) : GI w tol g0 csg v k xs (W.setCell ⟨B, o, none⟩ u) :=
  ⟨h.bl.setCell (by simp; omega) _, h.t.other _ (by omega), h.g.other _ (by omega), row_block h.o (fun q hq => heap_set (by have := h3 q hq; omega))⟩
theorem GI.grown (h : GI w tol g0 csg v k xs W) (hown : W'.ownsRow (w.heap.size + 1) 47 4 v' n ys) (hgrow : W.grownBy W' v.ownBlock) : GI w tol g0 csg v' n ys W' := by
  have keep : ∀ {b : Nat} {cs : Array Value} {t : TypeId}, CB W b cs t → t ≠ 47 → CB W' b cs t := fun H ht => H.keep (hgrow.block _ H.lt (fun e => H.ne h.o ht e))
  exact ⟨bel_grown h.bl (Nat.le_refl _) hgrow (fun r hr => by have := (h.o.lt r hr).1; omega), keep h.t (by decide), keep h.g (by decide), hown⟩
end

theorem two_bl {w w1 : World} {bs cs : Array Value} {s t : TypeId} (b : Below ((w.alloc (.cells bs s (0, 0))).alloc (.cells cs t (0, 0))).heap.size ((w.alloc (.cells bs s (0, 0))).alloc (.cells cs t (0, 0))) w1) :
    CB w1 w.heap.size bs s ∧ CB w1 (w.heap.size + 1) cs t ∧ Below w.heap.size w w1 := by
  refine ⟨?_, ?_, ?_⟩
  · exact ((CB.new bs s).alloc _).below b (by simp; omega)
  · exact (CB.newAt (by simp) cs t).below b (by simp)
  · exact bel_on (((Below.refl _ _).alloc (Nat.le_refl _) _).alloc (by simp) _) b
/-- Right bill lines, and none of the first k lines billed beyond a quantity. -/
def BiN (len nb : Nat) (bc : Nat → BN3) (k : Nat) : Prop := (∀ j, j < nb → bnB len (bc j) = true) ∧ ∀ j, j < k → bS bc nb j ≤ 1000000
theorem bi_all {len nb : Nat} {bc : Nat → BN3} (h : BiN len nb bc len) (hn : nb ≤ 400) : BiP len nb bc := ⟨hn, h.1, fun j => by
  by_cases e : j < len
  · exact h.2 j e
  · rw [bS_out (len := len) (by omega) h.1]; omega⟩
set_option maxRecDepth 20000 in
set_option maxHeartbeats 8000000 in
theorem specMatch_any (ad : Option Addr) (len cap : Nat) (c : Nat → OL3) (ar : Option Addr) (nr rcap : Nat) (rc : Nat → RC2) (ab : Option Addr) (nb bcap : Nat) (bc : Nat → BN3) (tov tpr tle : Int) (w : World) (hl : (len : Int) ≤ 1048576) (hn : (nr : Int) ≤ 1048576) (hnb : (nb : Int) ≤ 1048576) (hs : ∀ j, (c j).item.size ≤ maxLen) (hr : OLr w ad len c) (hrr : RCr w ar nr rc) (hbr : BNr w ab nb bc) :
    Calls Try.prog 20 #[.slice ad len cap, .slice ar nr rcap, .slice ab nb bcap, .agg #[.int .i64 tov, .int .i64 tpr, .int .i64 tle]] w fun e w' => MbP len c nr rc nb bc tov tpr tle w e w' := by
  have HR : Hid (OLr w ad len c) := hr
  have HRR : Hid (RCr w ar nr rc) := hrr
  have HBR : Hid (BNr w ab nb bc) := hbr
  have HS : Hid (∀ j, (c j).item.size ≤ maxLen) := hs
  clear hr hrr hbr hs
  obtain ⟨T, hT⟩ : ∃ T, reT len c nr rc tov tpr tle = T := ⟨_, rfl⟩
  have HT : Hid (reT len c nr rc tov tpr tle = T) := hT
  by_cases hm : T = -1
  · subst hm
    have HRB : Hid (reB len c nr tov tpr tle = true) := hid (re_ok hT)
    have HM : Hid (reM len c nr rc tov tpr tle = len) := hid (by unfold reM; rw [hT]; exact if_pos rfl)
    have HOR : Hid (OrP len c) := hid (re_or HRB.out)
    have htl := re_tol HRB.out
    have hl6 : (len : Int) ≤ 60 := by have := HOR.out.2.1; omega
    have hl1 : (1 : Int) ≤ (len : Int) := by have := HOR.out.1; omega
    clear hT
    by_cases h4 : 400 < (nb : Int)
    · have HV : Hid (mbB len c nr rc nb bc tov tpr tle = false) := hid (by have : biB len nb bc = false := biB_f fun H => (by have := H.1; omega); simp [mbB, this])
      go_enter Try.func20, Try.ntmps20
      go_wp2_with (first | (go_at_call 39; go_loud (refine (specRec_any ad len cap c ar nr rcap rc tov tpr tle _ hl hn HS.out ((HR.out.alloc _).alloc _) ((HRR.out.alloc _).alloc _)).mono ?_; rintro e w1 ⟨adg, capg, rfl, o1, b1⟩; obtain ⟨C1, C2, B1⟩ := two_bl b1; rw [HM.out, HT.out]; rw [HM.out] at o1; have HO1 : Hid (w1.ownsRow (w.heap.size + 1) 3 1 (.slice adg len capg) len (intL (gS rc nr) len)) := row_lower o1 (by simp <;> omega); clear o1; have HT1 : Hid (CB w1 w.heap.size #[.int .i64 tov, .int .i64 tpr, .int .i64 tle] 40) := C1; have HE1 : Hid (CB w1 (w.heap.size + 1) #[] 47) := C2; have HB1 : Hid (Below w.heap.size w w1) := B1; clear b1 C1 C2 B1)))
      go_returns
      exact mb_none HV.out HB1.out
    have h4b : (nb : Int) ≤ 400 := by omega
    clear h4
    have HBIF : Hid (biB len nb bc = false → mbB len c nr rc nb bc tov tpr tle = false) := hid (fun h => by simp [mbB, h])
    obtain ⟨i0, hi, hz0, hz1, hz2⟩ := infoML4
    go_enter Try.func20, Try.ntmps20
    go_wp2_with (first | (go_at_call 39; go_loud (refine (specRec_any ad len cap c ar nr rcap rc tov tpr tle _ hl hn HS.out ((HR.out.alloc _).alloc _) ((HRR.out.alloc _).alloc _)).mono ?_; rintro e w1 ⟨adg, capg, rfl, o1, b1⟩; obtain ⟨C1, C2, B1⟩ := two_bl b1; rw [HM.out, HT.out]; rw [HM.out] at o1; have HO1 : Hid (w1.ownsRow (w.heap.size + 1) 3 1 (.slice adg len capg) len (intL (gS rc nr) len)) := row_lower o1 (by simp <;> omega); clear o1; have HT1 : Hid (CB w1 w.heap.size #[.int .i64 tov, .int .i64 tpr, .int .i64 tle] 40) := C1; have HE1 : Hid (CB w1 (w.heap.size + 1) #[] 47) := C2; have HB1 : Hid (Below w.heap.size w w1) := B1; clear b1 C1 C2 B1)))
    obtain ⟨g0, capg', csg, hsl, hgl, hgc, hgs⟩ := row_block_of HO1.out (by omega)
    simp only [Value.slice.injEq] at hsl
    obtain ⟨rfl, _, rfl⟩ := hsl
    have HGV : Hid (∀ j, j < len → csg[j]? = some (.int .i64 (gS rc nr j))) := hid (fun j hj => by
      have h1 := (row_IR HO1.out (fun j hj => intL_get hj)).cell hj
      rw [Nat.zero_add, hgc.cell] at h1
      exact h1)
    obtain ⟨FM, hFM⟩ : ∃ FM, mbF c nr rc nb bc tpr tle = FM := ⟨_, rfl⟩
    have HFM : Hid (∀ k, FM k = ⟨gS rc nr k, bS bc nb k, dS bc nb k, stV (gS rc nr k) (bS bc nb k) (dS bc nb k) (c k).price tpr tle⟩) := hid (fun k => by rw [← hFM]; rfl)
    have HFE : Hid (mbF c nr rc nb bc tpr tle = FM) := hFM
    have HG0 : Hid (GI w #[.int .i64 tov, .int .i64 tpr, .int .i64 tle] g0 csg (.slice (some ⟨w.heap.size + 1, 0, none⟩) 0 0) 0 (rowML4 FM 0) w1) := hid ⟨HB1.out, HT1.out, hgc, madeML4 HE1.out (Nat.le_refl _)⟩
    clear hFM hgc hgl hgs
    go_loopw [10, 13, 14] (fun ov pp i wr => ∃ (k : Nat) (oa : Option Addr) (oc : Nat) (P : Int), k ≤ len ∧ i = .int .i64 (k : Int) ∧ ov = .slice oa k oc ∧ pp = .int .i64 P ∧ 0 ≤ P ∧ P ≤ 100000000000 * (k : Int) ∧ Hid (P = payS FM k) ∧ Hid (GI w #[.int .i64 tov, .int .i64 tpr, .int .i64 tle] g0 csg (.slice oa k oc) k (rowML4 FM k) wr) ∧ Hid (0 < k → BiN len nb bc k)) (fun _ _ i _ => len - (intOf i).toNat)
    case atStart => exact ⟨0, _, _, 0, Nat.zero_le _, rfl, rfl, rfl, by omega, by omega, rfl, HG0, fun h => by omega⟩
    case round =>
      obtain ⟨k, oa, oc, P, hk, rfl, rfl, rfl, hP0, hP1, HP, HG, HBN⟩ := hrel
      obtain ⟨wo, rfl⟩ : ∃ x, x = wr := ⟨wr, rfl⟩
      by_cases hlt : k < len
      · have hlt2 : (k : Int) < (len : Int) := by omega
        obtain ⟨G, hGv⟩ : ∃ G, gS rc nr k = G := ⟨_, rfl⟩
        have s0 : wo.cell? ⟨g0, k, none⟩ = some (.int .i64 G) := by rw [HG.out.g.cell, HGV.out k hlt, hGv]
        have HGE : Hid (gS rc nr k = G) := hGv
        have HL1 : Hid (w.heap.size < wo.heap.size) := HG.out.t.lt
        have HL2 : Hid (g0 < wo.heap.size) := HG.out.g.lt
        have HL3 : Hid (∀ q, (Value.slice oa k oc).ownBlock = some q → q < wo.heap.size) := hid (fun q hq => (HG.out.o.lt q hq).2)
        obtain ⟨Bm, hBm⟩ : ∃ B, wo.heap.size = B := ⟨_, rfl⟩
        rw [hBm] at HL1 HL2 HL3
        have HGm : Hid (GI w #[.int .i64 tov, .int .i64 tpr, .int .i64 tle] g0 csg (.slice oa k oc) k (rowML4 FM k) (wo.alloc (.cells #[.int .i64 G, .int .i64 0, .int .i64 0, .int .i64 0] 47 (0, 0)))) := hid (HG.out.alloc _)
        have HCm : Hid (CB (wo.alloc (.cells #[.int .i64 G, .int .i64 0, .int .i64 0, .int .i64 0] 47 (0, 0))) Bm #[.int .i64 G, .int .i64 0, .int .i64 0, .int .i64 0] 47) := hid (CB.newAt hBm _ _)
        clear hGv
        go_wp2
        clear s0 hBm
        go_loopw [16] (fun i w2 => ∃ (n : Nat) (a b : Int), n ≤ nb ∧ i = .int .i64 (n : Int) ∧ CB w2 Bm #[.int .i64 G, .int .i64 a, .int .i64 b, .int .i64 0] 47 ∧ Hid (a = bS bc n k ∧ b = dS bc n k) ∧ Hid (∀ j, j < n → bnB len (bc j) = true) ∧ Hid (GI w #[.int .i64 tov, .int .i64 tpr, .int .i64 tle] g0 csg (.slice oa k oc) k (rowML4 FM k) w2)) (fun i _ => nb - (intOf i).toNat)
        case atStart => exact ⟨0, 0, 0, Nat.zero_le _, rfl, HCm.out, ⟨rfl, rfl⟩, fun j hj => by omega, HGm⟩
        case round =>
          obtain ⟨n, a, b, hnn, rfl, hC, HAB, HN, HG2⟩ := hrel
          by_cases hltn : n < nb
          · have hltn2 : (n : Int) < (nb : Int) := by omega
            obtain ⟨kb, off, rfl, hkb⟩ := HBR.out.addr (by omega)
            have k0 := (HBR.out.below HG2.out.bl).cell hltn
            obtain ⟨e, he⟩ : ∃ e, bc n = e := ⟨_, rfl⟩
            rw [he] at k0
            obtain ⟨ln, q, p⟩ := e
            have HX : Hid (bc n = ⟨ln, q, p⟩) := he
            obtain ⟨c0, c1, c2⟩ := k0
            simp only at c0 c1 c2
            clear he
            have m1 : wr.cell? ⟨Bm, 1, none⟩ = some (.int .i64 a) := (hC.cell 1).trans rfl
            have m2 : wr.cell? ⟨Bm, 2, none⟩ = some (.int .i64 b) := (hC.cell 2).trans rfl
            have n1 := hC.fr 1
            have n2 := hC.fr 2
            have HCC : Hid (CB wr Bm #[.int .i64 G, .int .i64 a, .int .i64 b, .int .i64 0] 47) := hC
            clear hC
            cases h1 : inB ln 0 ((len : Int) - 1)
            · have HBF := hid (HBIF.out (biB_bad hltn (by rw [HX.out]; simp [bnB, h1])))
              go_wp2_with (first | (go_at_call 67; refine (l1In_any _ _ _ _).mono ?_; rintro e w5 ⟨rfl, ew⟩; replace ew := ew.symm; subst ew) | (go_at_call 80; refine (l12Price_any _ _).mono ?_; rintro e w5 ⟨rfl, ew⟩; replace ew := ew.symm; subst ew))
              go_returns
              exact mb_none HBF.out ((HG2.out.alloc _).alloc _).bl
            cases h2 : inB q 1 1000000
            · have HBF := hid (HBIF.out (biB_bad hltn (by rw [HX.out]; simp [bnB, h2])))
              go_wp2_with (first | (go_at_call 67; refine (l1In_any _ _ _ _).mono ?_; rintro e w5 ⟨rfl, ew⟩; replace ew := ew.symm; subst ew) | (go_at_call 80; refine (l12Price_any _ _).mono ?_; rintro e w5 ⟨rfl, ew⟩; replace ew := ew.symm; subst ew))
              go_returns
              exact mb_none HBF.out ((HG2.out.alloc _).alloc _).bl
            cases h3 : inB p 0 100000
            · have HBF := hid (HBIF.out (biB_bad hltn (by rw [HX.out]; simp [bnB, h3])))
              go_wp2_with (first | (go_at_call 67; refine (l1In_any _ _ _ _).mono ?_; rintro e w5 ⟨rfl, ew⟩; replace ew := ew.symm; subst ew) | (go_at_call 80; refine (l12Price_any _ _).mono ?_; rintro e w5 ⟨rfl, ew⟩; replace ew := ew.symm; subst ew))
              go_returns
              exact mb_none HBF.out ((HG2.out.alloc _).alloc _).bl
            have hp1 := inB_t h1
            have hp2 := inB_t h2
            have hp3 := inB_t h3
            have HN2 : Hid (∀ j, j < n + 1 → bnB len (bc j) = true) := hid (fun j hj => by
              by_cases e : j = n
              · subst e; rw [HX.out]; simp [bnB, h1, h2, h3]
              · exact HN.out j (by omega))
            obtain ⟨L, rfl⟩ : ∃ L : Nat, ln = (L : Int) := ⟨ln.toNat, by omega⟩
            by_cases hLk : L = k
            · subst hLk
              have hbd := bd_bd (len := len) HN.out L
              rw [← HAB.out.1, ← HAB.out.2] at hbd
              have a1 : (wr.alloc (.cells #[.int .i64 (L : Int), .int .i64 q, .int .i64 p] 122 (0, 0))).cell? ⟨Bm, 1, none⟩ = some (.int .i64 a) := ((HCC.out.alloc _).cell 1).trans rfl
              have a2 : (wr.alloc (.cells #[.int .i64 (L : Int), .int .i64 q, .int .i64 p] 122 (0, 0))).cell? ⟨Bm, 2, none⟩ = some (.int .i64 b) := ((HCC.out.alloc _).cell 2).trans rfl
              have g1 : (wr.alloc (.cells #[.int .i64 (L : Int), .int .i64 q, .int .i64 p] 122 (0, 0))).frozen? ⟨Bm, 1, none⟩ = false := (HCC.out.alloc _).fr 1
              have g2 : (wr.alloc (.cells #[.int .i64 (L : Int), .int .i64 q, .int .i64 p] 122 (0, 0))).frozen? ⟨Bm, 2, none⟩ = false := (HCC.out.alloc _).fr 2
              have hb1 : ¬ Bm = wr.heap.size := by have := HCC.out.lt; omega
              have hb2 : ¬ wr.heap.size = Bm := by have := HCC.out.lt; omega
              have hm0 : 0 ≤ q * p := Int.mul_nonneg (by omega) (by omega)
              have hm1 : q * p ≤ q * 100000 := Int.mul_le_mul_of_nonneg_left (by omega) (by omega)
              have hwm : IntKind.i64.wrap (q * p) = q * p := IntWalk.i64_in _ ⟨by omega, by omega⟩
              have hwb : IntKind.i64.wrap (b + q * p) = b + q * p := IntWalk.i64_in _ ⟨by omega, by omega⟩
              have HAN : Hid (a + q = bS bc (n + 1) L ∧ b + q * p = dS bc (n + 1) L) := hid ⟨by rw [bS_hit HX.out, HAB.out.1], by rw [dS_hit HX.out, HAB.out.2]⟩
              go_wp2_with (first | (go_at_call 67; refine (l1In_any _ _ _ _).mono ?_; rintro e w5 ⟨rfl, ew⟩; replace ew := ew.symm; subst ew) | (go_at_call 80; refine (l12Price_any _ _).mono ?_; rintro e w5 ⟨rfl, ew⟩; replace ew := ew.symm; subst ew))
              go_roundw
              case rel => exact ⟨n + 1, a + q, b + q * p, by omega, by go_num, by simpa using ((HCC.out.alloc _).set 1 (.int .i64 (a + q))).set 2 (.int .i64 (b + q * p)), HAN, HN2, ((HG2.out.alloc _).new _ HL1.out HL2.out HL3.out).new _ HL1.out HL2.out HL3.out⟩
              case measure => simp [intOf]; omega
            · have hne : ¬ (L : Int) = (k : Int) := by omega
              have hne2 := eq_f hne
              have HAN : Hid (a = bS bc (n + 1) k ∧ b = dS bc (n + 1) k) := hid ⟨by rw [bS_miss HX.out (fun e => hLk e.symm), HAB.out.1], by rw [dS_miss HX.out (fun e => hLk e.symm), HAB.out.2]⟩
              clear hLk hne
              go_wp2_with (first | (go_at_call 67; refine (l1In_any _ _ _ _).mono ?_; rintro e w5 ⟨rfl, ew⟩; replace ew := ew.symm; subst ew) | (go_at_call 80; refine (l12Price_any _ _).mono ?_; rintro e w5 ⟨rfl, ew⟩; replace ew := ew.symm; subst ew))
              go_roundw
              case rel => exact ⟨n + 1, a, b, by omega, by go_num, HCC.out.alloc _, HAN, HN2, HG2.out.alloc _⟩
              case measure => simp [intOf]; omega
          · obtain rfl : n = nb := by omega
            have lkk : ¬ (n : Int) < (n : Int) := by omega
            have hbd := bd_bd (len := len) HN.out k
            rw [← HAB.out.1, ← HAB.out.2] at hbd
            have m1 : wr.cell? ⟨Bm, 1, none⟩ = some (.int .i64 a) := (hC.cell 1).trans rfl
            have m2 : wr.cell? ⟨Bm, 2, none⟩ = some (.int .i64 b) := (hC.cell 2).trans rfl
            have HCC : Hid (CB wr Bm #[.int .i64 G, .int .i64 a, .int .i64 b, .int .i64 0] 47) := hC
            clear hC
            cases hq : inB a 0 1000000
            · have HBF := hid (HBIF.out (biB_over (k := n) (j := k) (Nat.le_refl _) (by rw [← HAB.out.1]; have := inB_f hq; omega)))
              go_wp2_with (first | (go_at_call 81; refine (l12Qty_eq _ _ _ hq).mono ?_; rintro e w5 ⟨rfl, ew⟩; replace ew := ew.symm; subst ew) | (go_at_call 82; refine (l1Amt_any _ _).mono ?_; rintro e w5 ⟨rfl, ew⟩; replace ew := ew.symm; subst ew))
              go_returns
              exact mb_none HBF.out (HG2.out.alloc _).bl
            have hq2 := inB_t hq
            have hamt : inB b (-100000000000) 100000000000 = true := inB_y (by omega) (by omega)
            have HBK : Hid (0 < k + 1 → BiN len n bc (k + 1)) := hid (fun _ => ⟨HN.out, fun j hj => by
              by_cases e : j = k
              · subst e; rw [← HAB.out.1]; omega
              · exact (HBN.out (by omega)).2 j (by omega)⟩)
            obtain ⟨ka, ofa, rfl, hka⟩ := HR.out.addr (by omega)
            obtain ⟨_, _, o2⟩ := (HR.out.below HG2.out.bl).cell hlt
            have hpb := (olB_p (HOR.out.2.2 k hlt)).2.2
            obtain ⟨p, hp⟩ : ∃ p, (c k).price = p := ⟨_, rfl⟩
            rw [hp] at o2 hpb
            have HMK : Hid (FM k = ⟨G, a, b, stV G a b p tpr tle⟩) := hid (by rw [HFM.out, HGE.out, ← HAB.out.1, ← HAB.out.2, hp])
            clear hp
            have hm0 : 0 ≤ a * p := Int.mul_nonneg (by omega) (by omega)
            have hm1 : a * p ≤ 1000000 * 100000 := Int.mul_le_mul hq2.2 hpb.2 hpb.1 (by omega)
            have hwm : IntKind.i64.wrap (a * p) = a * p := IntWalk.i64_in _ ⟨by omega, by omega⟩
            have hmd := md_abs (a * p) tpr 1000 1
            have HMD : Hid (∀ W, Calls Try.prog 83 #[.int .i64 (a * p), .int .i64 tpr, .int .i64 1000, .int .i64 1] W fun e w' => e = .returned (.tuple #[.int .i64 (mdV (a * p) tpr 1000 1), .bool (mdB (a * p) tpr 1000 1)]) ∧ w' = W) := fun W => specMulDiv_any (a * p) tpr 1000 1 W
            obtain ⟨SP, hSP⟩ : ∃ D, mdV (a * p) tpr 1000 1 = D := ⟨_, rfl⟩
            obtain ⟨DB, hDB⟩ : ∃ D, mdB (a * p) tpr 1000 1 = D := ⟨_, rfl⟩
            rw [hSP, hDB] at HMD
            rw [hSP] at hmd
            obtain ⟨MX, hMX⟩ : ∃ M, max SP tle = M := ⟨_, rfl⟩
            have HMX : Hid (∀ W, Calls Try.prog 84 #[.int .i64 SP, .int .i64 tle] W fun e w' => e = .returned (.int .i64 MX) ∧ w' = W) := hid (fun W => by rw [← hMX]; exact l9Max_any SP tle W)
            have hMXb : 0 ≤ MX ∧ MX ≤ 100000000000 := by omega
            have HD : Hid (dearV (a * p) tle (mdV (a * p) tpr 1000 1) = a * p + MX) := hid (by unfold dearV; rw [hSP]; omega)
            have hwd : IntKind.i64.wrap (a * p + MX) = a * p + MX := IntWalk.i64_in _ ⟨by omega, by omega⟩
            clear hSP hDB hMX
            go_wp2_with (first | (go_at_call 81; refine (l12Qty_eq _ _ _ hq).mono ?_; rintro e w5 ⟨rfl, ew⟩; replace ew := ew.symm; subst ew) | (go_at_call 82; refine (l1Amt_eq _ _ _ hamt).mono ?_; rintro e w5 ⟨rfl, ew⟩; replace ew := ew.symm; subst ew))
            go_quiet (fail)
            have HG5 : Hid (GI w #[.int .i64 tov, .int .i64 tpr, .int .i64 tle] g0 csg (.slice oa k oc) k (rowML4 FM k) (wr.drewN nq)) := hid (HG2.out.below (bd_N (Below.refl _ _) _))
            have HC5 : Hid (CB (wr.drewN nq) Bm #[.int .i64 G, .int .i64 a, .int .i64 b, .int .i64 0] 47) := HCC.out
            clear m1 m2 o2
            generalize wr.drewN nq = W5 at HG5 HC5 ⊢
            have m0 : W5.cell? ⟨Bm, 0, none⟩ = some (.int .i64 G) := (HC5.out.cell 0).trans rfl
            have m1 : W5.cell? ⟨Bm, 1, none⟩ = some (.int .i64 a) := (HC5.out.cell 1).trans rfl
            have m2 : W5.cell? ⟨Bm, 2, none⟩ = some (.int .i64 b) := (HC5.out.cell 2).trans rfl
            have x1 : W5.cell? ⟨w.heap.size, 1, none⟩ = some (.int .i64 tpr) := (HG5.out.t.cell 1).trans rfl
            have x2 : W5.cell? ⟨w.heap.size, 2, none⟩ = some (.int .i64 tle) := (HG5.out.t.cell 2).trans rfl
            go_wp2_with (first | (go_at_call 83; refine (HMD.out _).mono ?_; rintro e w5 ⟨rfl, ew⟩; replace ew := ew.symm; subst ew))
            go_quiet (first | (go_at_call 84; exact Calls.quiet_of_same (HMX.out _)))
            have HG7 : Hid (GI w #[.int .i64 tov, .int .i64 tpr, .int .i64 tle] g0 csg (.slice oa k oc) k (rowML4 FM k) (W5.drewN nq)) := hid (HG5.out.below (bd_N (Below.refl _ _) _))
            have HC7 : Hid (CB (W5.drewN nq) Bm #[.int .i64 G, .int .i64 a, .int .i64 b, .int .i64 0] 47) := HC5.out
            clear m0 m1 m2 x1 x2 HC5 HG5
            generalize W5.drewN nq = W7 at HG7 HC7 ⊢
            have m0 : W7.cell? ⟨Bm, 0, none⟩ = some (.int .i64 G) := (HC7.out.cell 0).trans rfl
            have m1 : W7.cell? ⟨Bm, 1, none⟩ = some (.int .i64 a) := (HC7.out.cell 1).trans rfl
            have m2 : W7.cell? ⟨Bm, 2, none⟩ = some (.int .i64 b) := (HC7.out.cell 2).trans rfl
            have m3 : W7.cell? ⟨Bm, 3, none⟩ = some (.int .i64 0) := (HC7.out.cell 3).trans rfl
            have n3 := HC7.out.fr 3
            by_cases h0 : a = 0
            · have e0 := eq_t h0
              have HMS : Hid (FM k = ⟨G, a, b, 0⟩) := hid (by rw [HMK.out, st_0 h0])
              have HROW : Hid (rowML4 FM (k + 1) = rowML4 FM k ++ [.int .i64 G, .int .i64 a, .int .i64 b, .int .i64 0]) := hid (by show rowML4 FM k ++ [.int .i64 (FM k).got, .int .i64 (FM k).billed, .int .i64 (FM k).due, .int .i64 (FM k).state] = _; rw [HMS.out])
              have HPN : Hid (P = payS FM (k + 1)) := hid (by rw [payS_f (by rw [HMS.out]; show ¬ (0 : Int) = 1; decide), HP.out])
              have HGA : Hid (GI w #[.int .i64 tov, .int .i64 tpr, .int .i64 tle] g0 csg (.slice oa k oc) k (rowML4 FM k) ((W7.setCell ⟨Bm, 3, none⟩ (.int .i64 0)).alloc (.cells #[.int .i64 G, .int .i64 a, .int .i64 b, .int .i64 0] 47 (0, 0)))) := hid ((HG7.out.new _ HL1.out HL2.out HL3.out).alloc _)
              clear h0
              go_wp2_with (first | (at_builtin; go_loud (refine wpList_append_own_at _ rfl _ _ 43 rfl (w.heap.size + 1) 47 i0 (.agg #[.int .i64 0, .int .i64 0, .int .i64 0, .int .i64 0]) 4 32 Try.underlying43 hi hz0 hz1 hz2 rfl (by decide) (.slice oa k oc) k (rowML4 FM k) rfl HGA.out.o ⟨W7.heap.size, 0, none⟩ 1 1 [.int .i64 G, .int .i64 a, .int .i64 b, .int .i64 0] (by simp [Act.eval, Act.put]) rfl (acells_at (by simp)) (fun u hu => by simp at hu; rcases hu with rfl | rfl | rfl | rfl <;> rfl) (by unfold maxLen; omega) (by omega) (by have := HGA.out.bl.size; have := HGA.out.t.lt; omega) ?_); intro v9 w9 hown hgrow hnil hat; obtain ⟨oa9, oc9, rfl⟩ := row_form hown; have HG9 : Hid (GI w #[.int .i64 tov, .int .i64 tpr, .int .i64 tle] g0 csg (.slice oa9 (k + 1) oc9) (k + 1) (rowML4 FM (k + 1)) w9) := hid (by have := HGA.out.grown hown hgrow; rw [← HROW.out] at this; exact this); clear hown hgrow hnil hat))
              go_roundw
              case rel => exact ⟨k + 1, oa9, oc9, P, by omega, by go_num, rfl, rfl, by omega, by omega, HPN, HG9, HBK⟩
              case measure => simp [intOf]; omega
            have e0 := eq_f h0
            by_cases hg : G < a
            · by_cases hd : a * p + MX < b
              · skip
                have HMS : Hid (FM k = ⟨G, a, b, 4⟩) := hid (by rw [HMK.out, st_4 h0 hg HD.out hd])
                have HROW : Hid (rowML4 FM (k + 1) = rowML4 FM k ++ [.int .i64 G, .int .i64 a, .int .i64 b, .int .i64 4]) := hid (by show rowML4 FM k ++ [.int .i64 (FM k).got, .int .i64 (FM k).billed, .int .i64 (FM k).due, .int .i64 (FM k).state] = _; rw [HMS.out])
                have HPN : Hid (P = payS FM (k + 1)) := hid (by rw [payS_f (by rw [HMS.out]; show ¬ (4 : Int) = 1; decide), HP.out])
                have HGA : Hid (GI w #[.int .i64 tov, .int .i64 tpr, .int .i64 tle] g0 csg (.slice oa k oc) k (rowML4 FM k) ((W7.setCell ⟨Bm, 3, none⟩ (.int .i64 4)).alloc (.cells #[.int .i64 G, .int .i64 a, .int .i64 b, .int .i64 4] 47 (0, 0)))) := hid ((HG7.out.new _ HL1.out HL2.out HL3.out).alloc _)
                go_wp2_with (first | (at_builtin; go_loud (refine wpList_append_own_at _ rfl _ _ 43 rfl (w.heap.size + 1) 47 i0 (.agg #[.int .i64 0, .int .i64 0, .int .i64 0, .int .i64 0]) 4 32 Try.underlying43 hi hz0 hz1 hz2 rfl (by decide) (.slice oa k oc) k (rowML4 FM k) rfl HGA.out.o ⟨W7.heap.size, 0, none⟩ 1 1 [.int .i64 G, .int .i64 a, .int .i64 b, .int .i64 4] (by simp [Act.eval, Act.put]) rfl (acells_at (by simp)) (fun u hu => by simp at hu; rcases hu with rfl | rfl | rfl | rfl <;> rfl) (by unfold maxLen; omega) (by omega) (by have := HGA.out.bl.size; have := HGA.out.t.lt; omega) ?_); intro v9 w9 hown hgrow hnil hat; obtain ⟨oa9, oc9, rfl⟩ := row_form hown; have HG9 : Hid (GI w #[.int .i64 tov, .int .i64 tpr, .int .i64 tle] g0 csg (.slice oa9 (k + 1) oc9) (k + 1) (rowML4 FM (k + 1)) w9) := hid (by have := HGA.out.grown hown hgrow; rw [← HROW.out] at this; exact this); clear hown hgrow hnil hat))
                go_roundw
                case rel => exact ⟨k + 1, oa9, oc9, P, by omega, by go_num, rfl, rfl, by omega, by omega, HPN, HG9, HBK⟩
                case measure => simp [intOf]; omega
              · skip
                have HMS : Hid (FM k = ⟨G, a, b, 2⟩) := hid (by rw [HMK.out, st_2 h0 hg HD.out hd])
                have HROW : Hid (rowML4 FM (k + 1) = rowML4 FM k ++ [.int .i64 G, .int .i64 a, .int .i64 b, .int .i64 2]) := hid (by show rowML4 FM k ++ [.int .i64 (FM k).got, .int .i64 (FM k).billed, .int .i64 (FM k).due, .int .i64 (FM k).state] = _; rw [HMS.out])
                have HPN : Hid (P = payS FM (k + 1)) := hid (by rw [payS_f (by rw [HMS.out]; show ¬ (2 : Int) = 1; decide), HP.out])
                have HGA : Hid (GI w #[.int .i64 tov, .int .i64 tpr, .int .i64 tle] g0 csg (.slice oa k oc) k (rowML4 FM k) ((W7.setCell ⟨Bm, 3, none⟩ (.int .i64 2)).alloc (.cells #[.int .i64 G, .int .i64 a, .int .i64 b, .int .i64 2] 47 (0, 0)))) := hid ((HG7.out.new _ HL1.out HL2.out HL3.out).alloc _)
                go_wp2_with (first | (at_builtin; go_loud (refine wpList_append_own_at _ rfl _ _ 43 rfl (w.heap.size + 1) 47 i0 (.agg #[.int .i64 0, .int .i64 0, .int .i64 0, .int .i64 0]) 4 32 Try.underlying43 hi hz0 hz1 hz2 rfl (by decide) (.slice oa k oc) k (rowML4 FM k) rfl HGA.out.o ⟨W7.heap.size, 0, none⟩ 1 1 [.int .i64 G, .int .i64 a, .int .i64 b, .int .i64 2] (by simp [Act.eval, Act.put]) rfl (acells_at (by simp)) (fun u hu => by simp at hu; rcases hu with rfl | rfl | rfl | rfl <;> rfl) (by unfold maxLen; omega) (by omega) (by have := HGA.out.bl.size; have := HGA.out.t.lt; omega) ?_); intro v9 w9 hown hgrow hnil hat; obtain ⟨oa9, oc9, rfl⟩ := row_form hown; have HG9 : Hid (GI w #[.int .i64 tov, .int .i64 tpr, .int .i64 tle] g0 csg (.slice oa9 (k + 1) oc9) (k + 1) (rowML4 FM (k + 1)) w9) := hid (by have := HGA.out.grown hown hgrow; rw [← HROW.out] at this; exact this); clear hown hgrow hnil hat))
                go_roundw
                case rel => exact ⟨k + 1, oa9, oc9, P, by omega, by go_num, rfl, rfl, by omega, by omega, HPN, HG9, HBK⟩
                case measure => simp [intOf]; omega
            · by_cases hd : a * p + MX < b
              · skip
                have HMS : Hid (FM k = ⟨G, a, b, 3⟩) := hid (by rw [HMK.out, st_3 h0 hg HD.out hd])
                have HROW : Hid (rowML4 FM (k + 1) = rowML4 FM k ++ [.int .i64 G, .int .i64 a, .int .i64 b, .int .i64 3]) := hid (by show rowML4 FM k ++ [.int .i64 (FM k).got, .int .i64 (FM k).billed, .int .i64 (FM k).due, .int .i64 (FM k).state] = _; rw [HMS.out])
                have HPN : Hid (P = payS FM (k + 1)) := hid (by rw [payS_f (by rw [HMS.out]; show ¬ (3 : Int) = 1; decide), HP.out])
                have HGA : Hid (GI w #[.int .i64 tov, .int .i64 tpr, .int .i64 tle] g0 csg (.slice oa k oc) k (rowML4 FM k) ((W7.setCell ⟨Bm, 3, none⟩ (.int .i64 3)).alloc (.cells #[.int .i64 G, .int .i64 a, .int .i64 b, .int .i64 3] 47 (0, 0)))) := hid ((HG7.out.new _ HL1.out HL2.out HL3.out).alloc _)
                go_wp2_with (first | (at_builtin; go_loud (refine wpList_append_own_at _ rfl _ _ 43 rfl (w.heap.size + 1) 47 i0 (.agg #[.int .i64 0, .int .i64 0, .int .i64 0, .int .i64 0]) 4 32 Try.underlying43 hi hz0 hz1 hz2 rfl (by decide) (.slice oa k oc) k (rowML4 FM k) rfl HGA.out.o ⟨W7.heap.size, 0, none⟩ 1 1 [.int .i64 G, .int .i64 a, .int .i64 b, .int .i64 3] (by simp [Act.eval, Act.put]) rfl (acells_at (by simp)) (fun u hu => by simp at hu; rcases hu with rfl | rfl | rfl | rfl <;> rfl) (by unfold maxLen; omega) (by omega) (by have := HGA.out.bl.size; have := HGA.out.t.lt; omega) ?_); intro v9 w9 hown hgrow hnil hat; obtain ⟨oa9, oc9, rfl⟩ := row_form hown; have HG9 : Hid (GI w #[.int .i64 tov, .int .i64 tpr, .int .i64 tle] g0 csg (.slice oa9 (k + 1) oc9) (k + 1) (rowML4 FM (k + 1)) w9) := hid (by have := HGA.out.grown hown hgrow; rw [← HROW.out] at this; exact this); clear hown hgrow hnil hat))
                go_roundw
                case rel => exact ⟨k + 1, oa9, oc9, P, by omega, by go_num, rfl, rfl, by omega, by omega, HPN, HG9, HBK⟩
                case measure => simp [intOf]; omega
              · skip
                have HMS : Hid (FM k = ⟨G, a, b, 1⟩) := hid (by rw [HMK.out, st_1 h0 hg HD.out hd])
                have HROW : Hid (rowML4 FM (k + 1) = rowML4 FM k ++ [.int .i64 G, .int .i64 a, .int .i64 b, .int .i64 1]) := hid (by show rowML4 FM k ++ [.int .i64 (FM k).got, .int .i64 (FM k).billed, .int .i64 (FM k).due, .int .i64 (FM k).state] = _; rw [HMS.out])
                have HPN : Hid (P + b = payS FM (k + 1)) := hid (by rw [payS_t (by rw [HMS.out]), HP.out, HMS.out])
                have HGA : Hid (GI w #[.int .i64 tov, .int .i64 tpr, .int .i64 tle] g0 csg (.slice oa k oc) k (rowML4 FM k) ((W7.setCell ⟨Bm, 3, none⟩ (.int .i64 1)).alloc (.cells #[.int .i64 G, .int .i64 a, .int .i64 b, .int .i64 1] 47 (0, 0)))) := hid ((HG7.out.new _ HL1.out HL2.out HL3.out).alloc _)
                go_wp2_with (first | (at_builtin; go_loud (refine wpList_append_own_at _ rfl _ _ 43 rfl (w.heap.size + 1) 47 i0 (.agg #[.int .i64 0, .int .i64 0, .int .i64 0, .int .i64 0]) 4 32 Try.underlying43 hi hz0 hz1 hz2 rfl (by decide) (.slice oa k oc) k (rowML4 FM k) rfl HGA.out.o ⟨W7.heap.size, 0, none⟩ 1 1 [.int .i64 G, .int .i64 a, .int .i64 b, .int .i64 1] (by simp [Act.eval, Act.put]) rfl (acells_at (by simp)) (fun u hu => by simp at hu; rcases hu with rfl | rfl | rfl | rfl <;> rfl) (by unfold maxLen; omega) (by omega) (by have := HGA.out.bl.size; have := HGA.out.t.lt; omega) ?_); intro v9 w9 hown hgrow hnil hat; obtain ⟨oa9, oc9, rfl⟩ := row_form hown; have HG9 : Hid (GI w #[.int .i64 tov, .int .i64 tpr, .int .i64 tle] g0 csg (.slice oa9 (k + 1) oc9) (k + 1) (rowML4 FM (k + 1)) w9) := hid (by have := HGA.out.grown hown hgrow; rw [← HROW.out] at this; exact this); clear hown hgrow hnil hat))
                go_roundw
                case rel => exact ⟨k + 1, oa9, oc9, P + b, by omega, by go_num, rfl, rfl, by omega, by omega, HPN, HG9, HBK⟩
                case measure => simp [intOf]; omega
      · obtain rfl : k = len := by omega
        have lkk : ¬ (k : Int) < (k : Int) := by omega
        have HBT : Hid (biB k nb bc = true) := hid (biB_t (bi_all (HBN.out (by omega)) (by omega)))
        have HV : Hid (mbB k c nr rc nb bc tov tpr tle = true) := hid (by simp [mbB, HBT.out, HT.out])
        go_wp2
        go_returns
        refine ⟨oa, oc, ?_, ?_, HG.out.bl⟩
        · rw [(mb_yes HV.out).1, (mb_yes HV.out).2, HFE.out, ← HP.out]; rfl
        · rw [(mb_yes HV.out).1, HFE.out]
          obtain ⟨ad', cp', e', _, h'⟩ := ownML4_of HG.out.o
          simp only [Value.slice.injEq] at e'
          obtain ⟨rfl, _, rfl⟩ := e'
          exact h'.mono (by omega)
  · have hmn := eq_f hm
    have hmn2 : (T != -1) = true := by simp [hm]
    have HV : Hid (mbB len c nr rc nb bc tov tpr tle = false) := hid (by simp [mbB, hT, hm])
    clear hm hT
    go_enter Try.func20, Try.ntmps20
    go_wp2_with (first | (go_at_call 39; go_loud (refine (specRec_any ad len cap c ar nr rcap rc tov tpr tle _ hl hn HS.out ((HR.out.alloc _).alloc _) ((HRR.out.alloc _).alloc _)).mono ?_; rintro e w1 ⟨adg, capg, rfl, o1, b1⟩; obtain ⟨C1, C2, B1⟩ := two_bl b1; rw [HT.out]; clear o1; have HT1 : Hid (CB w1 w.heap.size #[.int .i64 tov, .int .i64 tpr, .int .i64 tle] 40) := C1; have HE1 : Hid (CB w1 (w.heap.size + 1) #[] 47) := C2; have HB1 : Hid (Below w.heap.size w w1) := B1; clear b1 C1 C2 B1)))
    go_returns
    exact mb_none HV.out HB1.out

end Go.Proofs.Ytghphlnpginmhaa
