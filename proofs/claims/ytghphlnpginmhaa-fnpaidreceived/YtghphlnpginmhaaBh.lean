/- MatchBill of the program: what was received, billed and is due of each line, and its state. -/
import Derived.Test.YtghphlnpginmhaaBg
import Derived.Test.YtghphlnpginmhaaBs
import Derived.Test.YtghphlnpginmhaaRh
import Derived.BigRegion
namespace Go.Proofs.Ytghphlnpginmhaa
open Go.ChangeShapes Go.WideShapes Go.ChangeAt Go.RowKit
set_option linter.unusedVariables false
set_option linter.unusedSimpArgs false

noncomputable def mbB (len : Nat) (c : Nat → OL3) (nr : Nat) (rc : Nat → RC2) (nb : Nat) (bc : Nat → BN3) (tov tpr tle : Int) : Bool := decide (reT len c nr rc tov tpr tle = -1) && biB len nb bc
def mbF (c : Nat → OL3) (nr : Nat) (rc : Nat → RC2) (nb : Nat) (bc : Nat → BN3) (tpr tle : Int) : Nat → ML4 := mlF c (gS rc nr) (bS bc nb) (dS bc nb) tpr tle
noncomputable def mbM (len : Nat) (c : Nat → OL3) (nr : Nat) (rc : Nat → RC2) (nb : Nat) (bc : Nat → BN3) (tov tpr tle : Int) : Nat := if mbB len c nr rc nb bc tov tpr tle = true then len else 0
noncomputable def mbY (len : Nat) (c : Nat → OL3) (nr : Nat) (rc : Nat → RC2) (nb : Nat) (bc : Nat → BN3) (tov tpr tle : Int) : Int := if mbB len c nr rc nb bc tov tpr tle = true then payS (mbF c nr rc nb bc tpr tle) len else 0
theorem payS_t {m : Nat → ML4} {k : Nat} (h : (m k).state = 1) : payS m (k + 1) = payS m k + (m k).due := if_pos h
theorem payS_f {m : Nat → ML4} {k : Nat} (h : ¬ (m k).state = 1) : payS m (k + 1) = payS m k := if_neg h
theorem re_ok {len : Nat} {c : Nat → OL3} {nr : Nat} {rc : Nat → RC2} {tov tpr tle : Int} (h : reT len c nr rc tov tpr tle = -1) : reB len c nr tov tpr tle = true := by
  cases g : reB len c nr tov tpr tle
  · have := (reT_no (rc := rc) g).1; rw [h] at this; cases this
  · rfl
theorem re_or {len : Nat} {c : Nat → OL3} {nr : Nat} {tov tpr tle : Int} (h : reB len c nr tov tpr tle = true) : OrP len c := by unfold reB at h; simp only [Bool.and_eq_true] at h; exact orB_p h.1
theorem re_tol {len : Nat} {c : Nat → OL3} {nr : Nat} {tov tpr tle : Int} (h : reB len c nr tov tpr tle = true) : 0 ≤ tle ∧ tle ≤ 100000000000 := by unfold reB at h; simp only [Bool.and_eq_true] at h; have h2 := h.2.1; unfold tolB at h2; simp only [Bool.and_eq_true] at h2; exact inB_t h2.2.2
/-- What MatchBill leaves. -/
def MbP (len : Nat) (c : Nat → OL3) (nr : Nat) (rc : Nat → RC2) (nb : Nat) (bc : Nat → BN3) (tov tpr tle : Int) (w : World) (e : Ending) (w' : World) : Prop :=
  ∃ ad cap, e = .returned (.tuple #[.slice ad (mbM len c nr rc nb bc tov tpr tle) cap, .int .i64 (mbY len c nr rc nb bc tov tpr tle)]) ∧ OwnML4 w' w.heap.size ad (mbM len c nr rc nb bc tov tpr tle) (mbF c nr rc nb bc tpr tle) ∧ Below w.heap.size w w'
theorem mb_none {len : Nat} {c : Nat → OL3} {nr : Nat} {rc : Nat → RC2} {nb : Nat} {bc : Nat → BN3} {tov tpr tle : Int} {w W : World} {ad : Option Addr} {cap : Nat} (h : mbB len c nr rc nb bc tov tpr tle = false) (bl : Below w.heap.size w W) : MbP len c nr rc nb bc tov tpr tle w (.returned (.tuple #[.slice ad 0 cap, .int .i64 0])) W := by
  have e1 : mbM len c nr rc nb bc tov tpr tle = 0 := by unfold mbM; rw [h]; exact if_neg (by decide)
  have e2 : mbY len c nr rc nb bc tov tpr tle = 0 := by unfold mbY; rw [h]; exact if_neg (by decide)
  exact ⟨ad, cap, by rw [e1, e2], .inl e1, bl⟩
theorem mb_yes {len : Nat} {c : Nat → OL3} {nr : Nat} {rc : Nat → RC2} {nb : Nat} {bc : Nat → BN3} {tov tpr tle : Int} (h : mbB len c nr rc nb bc tov tpr tle = true) : mbM len c nr rc nb bc tov tpr tle = len ∧ mbY len c nr rc nb bc tov tpr tle = payS (mbF c nr rc nb bc tpr tle) len := ⟨if_pos h, if_pos h⟩
/-- What stands by while the lines are told. -/
structure GH (w : World) (tol : Array Value) (g0 o0 len : Nat) (g : Nat → Int) (X : Nat) (csb : Array Value) (k : Nat) (m : Nat → ML4) (cs : Array Value) (W : World) : Prop where
  bl : Below w.heap.size w W
  t : CB W w.heap.size tol 40
  g : ∀ j, j < len → W.cell? ⟨g0, o0 + j, none⟩ = some (.int .i64 (g j))
  gl : g0 < X
  x : w.heap.size < X
  a : CB W X csb 130
  l : CB W (X + 1) cs 47
  s : cs.size = len * 4
  v : ∀ j, j < k → cs[j * 4]? = some (.int .i64 (m j).got) ∧ cs[j * 4 + 1]? = some (.int .i64 (m j).billed) ∧ cs[j * 4 + 2]? = some (.int .i64 (m j).due) ∧ cs[j * 4 + 3]? = some (.int .i64 (m j).state)
section
variable {w W W' : World} {tol : Array Value} {g0 o0 len : Nat} {g : Nat → Int} {X : Nat} {csb : Array Value} {k : Nat} {m : Nat → ML4} {cs : Array Value}
theorem GH.below (h : GH w tol g0 o0 len g X csb k m cs W) (b : Below W.heap.size W W') : GH w tol g0 o0 len g X csb k m cs W' :=
  ⟨bel_on h.bl b, h.t.below b h.t.lt, fun j hj => by rw [World.cell?_of_block (w := W) (b.block g0 (by have := h.gl; have := h.a.lt; omega))]; exact h.g j hj, h.gl, h.x, h.a.below b h.a.lt, h.l.below b h.l.lt, h.s, h.v⟩
theorem GH.new (h : GH w tol g0 o0 len g X csb k m cs W) {B o : Nat} (u : Value) (hB : X + 1 < B) : GH w tol g0 o0 len g X csb k m cs (W.setCell ⟨B, o, none⟩ u) := by
  have hx := h.x; have hg := h.gl
  exact ⟨h.bl.setCell (by simp; omega) _, h.t.other _ (by omega), fun j hj => by rw [World.cell?_of_block (w := W) (Below.heap_setCell _ _ _ _ (by simp; omega))]; exact h.g j hj, h.gl, h.x, h.a.other _ (by omega), h.l.other _ (by omega), h.s, h.v⟩
theorem GH.put (h : GH w tol g0 o0 len g X csb k m cs W) (hk : k < len) {a b c d : Int} (hm : m k = ⟨a, b, c, d⟩) :
    GH w tol g0 o0 len g X csb (k + 1) m ((((cs.setIfInBounds (k * 4) (.int .i64 a)).setIfInBounds (k * 4 + 1) (.int .i64 b)).setIfInBounds (k * 4 + 2) (.int .i64 c)).setIfInBounds (k * 4 + 3) (.int .i64 d)) ((((W.setCell ⟨X + 1, k * 4, none⟩ (.int .i64 a)).setCell ⟨X + 1, k * 4 + 1, none⟩ (.int .i64 b)).setCell ⟨X + 1, k * 4 + 2, none⟩ (.int .i64 c)).setCell ⟨X + 1, k * 4 + 3, none⟩ (.int .i64 d)) := by
  have hx := h.x; have hg := h.gl; have hs := h.s
  refine ⟨(((h.bl.setCell (by simp; omega) _).setCell (by simp; omega) _).setCell (by simp; omega) _).setCell (by simp; omega) _, (((h.t.other _ (by omega)).other _ (by omega)).other _ (by omega)).other _ (by omega), fun j hj => ?_, h.gl, h.x, (((h.a.other _ (by omega)).other _ (by omega)).other _ (by omega)).other _ (by omega), (((h.l.set _ _).set _ _).set _ _).set _ _, by simpa using h.s, fun j hj => ?_⟩
  · rw [World.cell?_of_block (w := W)]
    · exact h.g j hj
    · rw [Below.heap_setCell _ _ _ _ (by simp; omega), Below.heap_setCell _ _ _ _ (by simp; omega), Below.heap_setCell _ _ _ _ (by simp; omega), Below.heap_setCell _ _ _ _ (by simp; omega)]
  · by_cases e : j = k
    · subst e
      rw [hm]
      refine ⟨?_, ?_, ?_, ?_⟩
      · rw [get_set_ne (by omega), get_set_ne (by omega), get_set_ne (by omega), get_set_eq (by (try simp); omega)]
      · rw [get_set_ne (by omega), get_set_ne (by omega), get_set_eq (by (try simp); omega)]
      · rw [get_set_ne (by omega), get_set_eq (by (try simp); omega)]
      · rw [get_set_eq (by (try simp); omega)]
    · obtain ⟨x0, x1, x2, x3⟩ := h.v j (by omega)
      refine ⟨?_, ?_, ?_, ?_⟩ <;> (rw [get_set_ne (by omega), get_set_ne (by omega), get_set_ne (by omega), get_set_ne (by omega)]; assumption)
end

set_option maxRecDepth 20000 in
set_option maxHeartbeats 8000000 in
theorem implMatch_any (ad : Option Addr) (len cap : Nat) (c : Nat → OL3) (ar : Option Addr) (nr rcap : Nat) (rc : Nat → RC2) (ab : Option Addr) (nb bcap : Nat) (bc : Nat → BN3) (tov tpr tle : Int) (w : World) (hl : (len : Int) ≤ 1048576) (hn : (nr : Int) ≤ 1048576) (hnb : (nb : Int) ≤ 1048576) (hs : ∀ j, (c j).item.size ≤ maxLen) (hr : OLr w ad len c) (hrr : RCr w ar nr rc) (hbr : BNr w ab nb bc) :
    Calls Try.prog 19 #[.slice ad len cap, .slice ar nr rcap, .slice ab nb bcap, .agg #[.int .i64 tov, .int .i64 tpr, .int .i64 tle]] w fun e w' => MbP len c nr rc nb bc tov tpr tle w e w' := by
  have HR : Hid (OLr w ad len c) := hr
  have HRR : Hid (RCr w ar nr rc) := hrr
  have HBR : Hid (BNr w ab nb bc) := hbr
  have HS : Hid (∀ j, (c j).item.size ≤ maxLen) := hs
  clear hr hrr hbr hs
  obtain ⟨T, hT⟩ : ∃ T, reT len c nr rc tov tpr tle = T := ⟨_, rfl⟩
  have HT : Hid (reT len c nr rc tov tpr tle = T) := hT
  by_cases hm : T = -1
  · subst hm
    have HRB : Hid (reB len c nr tov tpr tle = true) := hid (re_ok hT)
    have HM : Hid (reM len c nr rc tov tpr tle = len) := hid (by unfold reM; rw [hT]; exact if_pos rfl)
    have HOR : Hid (OrP len c) := hid (re_or HRB.out)
    have htl := re_tol HRB.out
    have hl6 : (len : Int) ≤ 60 := by have := HOR.out.2.1; omega
    have hl1 : (1 : Int) ≤ (len : Int) := by have := HOR.out.1; omega
    clear hT
    cases hbb : biB len nb bc
    · have HV : Hid (mbB len c nr rc nb bc tov tpr tle = false) := hid (by simp [mbB, hbb])
      have HBB : Hid (biB len nb bc = false) := hbb
      clear hbb
      go_enter Try.func19, Try.ntmps19
      go_wp2_with (first | (go_at_call 42; go_loud (refine (implRec_any ad len cap c ar nr rcap rc tov tpr tle _ hl hn HS.out (HR.out.alloc _) (HRR.out.alloc _)).mono ?_; rintro e w1 ⟨adg, capg, rfl, o1, b1⟩; obtain ⟨C1, B1⟩ := tol_bl b1; rw [HM.out, HT.out]; rw [HM.out] at o1; have HO1 : Hid (w1.ownsRow (w.heap.size + 1) 3 1 (.slice adg len capg) len (intL (gS rc nr) len)) := row_lower o1 (by simp); clear o1; have HT1 : Hid (CB w1 w.heap.size #[.int .i64 tov, .int .i64 tpr, .int .i64 tle] 40) := C1; have HB1 : Hid (Below w.heap.size w w1) := B1; clear b1 C1 B1)) | (go_at_call 78; go_loud (refine (gatherBill_any ab nb bcap bc len _ hnb (by omega) (HBR.out.below HB1.out)).mono ?_; rintro e w2 ⟨csb, rfl, hcs, hone, hval, b2⟩; rw [HBB.out]; have HCS : Hid (csb.size = 120) := hcs; have HON : Hid (csb.all (·.oneCell') = true) := hone; have HVL : Hid (biB len nb bc = true → (∀ j, j < 60 → csb[j]? = some (.int .i64 (bS bc nb j))) ∧ ∀ j, j < 60 → csb[60 + j]? = some (.int .i64 (dS bc nb j))) := hval; have HB2 : Hid (Below w.heap.size w w2) := bel_on HB1.out b2; have HBW : Hid (Below w1.heap.size w1 w2) := b2; clear hcs hone hval b2)) | ((with_reducible show wpList _ _ _ ((⟨_, Op.alloc 130, _, _, _, _⟩ : Oper) :: _) _ _); refine wpB_alloc rfl rfl ?_) | ((with_reducible show wpList _ _ _ ((⟨_, Op.store 130 (.tmp 12) _, _, _, _, _⟩ : Oper) :: _) _ _); go_loud (refine wpB_store (x := .tmp 12) (g := w2.heap.size) (cells := csb) (old := z120) rfl rfl (by simp [Act.eval, Act.put]) (by simp [Act.eval, Act.put]) (CB.new z120 _) HCS.out z120_size HON.out ?_; rw [setRow_new rfl])))
      go_returns
      exact mb_none HV.out ((HB2.out.alloc HB2.out.size _).alloc (by simp; have := HB2.out.size; omega) _)
    have HV : Hid (mbB len c nr rc nb bc tov tpr tle = true) := hid (by simp [mbB, hbb, HT.out])
    have HBB : Hid (biB len nb bc = true) := hbb
    have HBP : Hid (BiP len nb bc) := hid (biB_p hbb)
    clear hbb
    have hmk := mkML4 len hl
    go_enter Try.func19, Try.ntmps19
    go_wp2_with (first | (go_at_call 42; go_loud (refine (implRec_any ad len cap c ar nr rcap rc tov tpr tle _ hl hn HS.out (HR.out.alloc _) (HRR.out.alloc _)).mono ?_; rintro e w1 ⟨adg, capg, rfl, o1, b1⟩; obtain ⟨C1, B1⟩ := tol_bl b1; rw [HM.out, HT.out]; rw [HM.out] at o1; have HO1 : Hid (w1.ownsRow (w.heap.size + 1) 3 1 (.slice adg len capg) len (intL (gS rc nr) len)) := row_lower o1 (by simp); clear o1; have HT1 : Hid (CB w1 w.heap.size #[.int .i64 tov, .int .i64 tpr, .int .i64 tle] 40) := C1; have HB1 : Hid (Below w.heap.size w w1) := B1; clear b1 C1 B1)) | (go_at_call 78; go_loud (refine (gatherBill_any ab nb bcap bc len _ hnb (by omega) (HBR.out.below HB1.out)).mono ?_; rintro e w2 ⟨csb, rfl, hcs, hone, hval, b2⟩; rw [HBB.out]; have HCS : Hid (csb.size = 120) := hcs; have HON : Hid (csb.all (·.oneCell') = true) := hone; have HVL : Hid (biB len nb bc = true → (∀ j, j < 60 → csb[j]? = some (.int .i64 (bS bc nb j))) ∧ ∀ j, j < 60 → csb[60 + j]? = some (.int .i64 (dS bc nb j))) := hval; have HB2 : Hid (Below w.heap.size w w2) := bel_on HB1.out b2; have HBW : Hid (Below w1.heap.size w1 w2) := b2; clear hcs hone hval b2)) | ((with_reducible show wpList _ _ _ ((⟨_, Op.alloc 130, _, _, _, _⟩ : Oper) :: _) _ _); refine wpB_alloc rfl rfl ?_) | ((with_reducible show wpList _ _ _ ((⟨_, Op.store 130 (.tmp 12) _, _, _, _, _⟩ : Oper) :: _) _ _); go_loud (refine wpB_store (x := .tmp 12) (g := w2.heap.size) (cells := csb) (old := z120) rfl rfl (by simp [Act.eval, Act.put]) (by simp [Act.eval, Act.put]) (CB.new z120 _) HCS.out z120_size HON.out ?_; rw [setRow_new rfl])))
    have hIR := row_IR HO1.out (fun j hj => intL_get hj)
    obtain ⟨g0, o0, rfl, hg0⟩ := hIR.addr (by omega)
    obtain ⟨X, hX⟩ : ∃ X, w2.heap.size = X := ⟨_, rfl⟩
    obtain ⟨FM, hFM⟩ : ∃ FM, mbF c nr rc nb bc tpr tle = FM := ⟨_, rfl⟩
    have HFM : Hid (∀ k, FM k = ⟨gS rc nr k, bS bc nb k, dS bc nb k, stV (gS rc nr k) (bS bc nb k) (dS bc nb k) (c k).price tpr tle⟩) := hid (fun k => by rw [← hFM]; rfl)
    have HYS : Hid (mbM len c nr rc nb bc tov tpr tle = len ∧ mbY len c nr rc nb bc tov tpr tle = payS FM len ∧ mbF c nr rc nb bc tpr tle = FM) := hid (by have := mb_yes HV.out; rw [hFM] at this; exact ⟨this.1, this.2, hFM⟩)
    have HG0 : Hid (GH w #[.int .i64 tov, .int .i64 tpr, .int .i64 tle] g0 o0 len (gS rc nr) X csb 0 FM (zerosML4 len) ((w2.alloc (.cells csb 130 (0, 0))).alloc (.cells (zerosML4 len) 47 (0, 0)))) := hid (by
      have hw := HBW.out.size
      have hwl := HT1.out.lt
      refine ⟨(HB2.out.alloc HB2.out.size _).alloc (by simp; have := HB2.out.size; omega) _, ((HT1.out.below HBW.out HT1.out.lt).alloc _).alloc _, fun j hj => (((hIR.below HBW.out).alloc _).alloc _).cell hj, by omega, by omega, (CB.newAt hX _ _).alloc _, CB.newAt (by simp [hX]) _ _, zerosML4_size _, fun j hj => by omega⟩)
    have HBD : Hid (∀ j, 0 ≤ bS bc nb j ∧ bS bc nb j ≤ 1000000 ∧ 0 ≤ dS bc nb j ∧ dS bc nb j ≤ 100000000000) := hid (fun j => by
      have h1 := bd_bd (len := len) HBP.out.2.1 j
      have h2 := HBP.out.2.2 j
      omega)
    have HCB : Hid (csb.size = 120 ∧ (∀ j, j < 60 → csb[j]? = some (.int .i64 (bS bc nb j))) ∧ ∀ j, j < 60 → csb[60 + j]? = some (.int .i64 (dS bc nb j))) := hid ⟨HCS.out, HVL.out HBB.out⟩
    rw [hX]
    clear hX hIR hg0 hmk hFM HVL HCS HON
    go_loopw [15, 44] (fun pp i wr => ∃ (k : Nat) (cs : Array Value) (P : Int), k ≤ len ∧ i = .int .i64 (k : Int) ∧ pp = .int .i64 P ∧ 0 ≤ P ∧ P ≤ 100000000000 * (k : Int) ∧ Hid (P = payS FM k) ∧ Hid (GH w #[.int .i64 tov, .int .i64 tpr, .int .i64 tle] g0 o0 len (gS rc nr) X csb k FM cs wr)) (fun _ i _ => len - (intOf i).toNat)
    case atStart => exact ⟨0, _, 0, Nat.zero_le _, rfl, rfl, by omega, by omega, rfl, HG0⟩
    case round =>
      obtain ⟨k, cs, P, hk, rfl, rfl, hP0, hP1, HP, HG⟩ := hrel
      obtain ⟨wo, rfl⟩ : ∃ x, x = wr := ⟨wr, rfl⟩
      by_cases hlt : k < len
      · have hlt2 : (k : Int) < (len : Int) := by omega
        obtain ⟨kb, off, rfl, hkb⟩ := HR.out.addr (by omega)
        have k0 := (HR.out.below HG.out.bl).cell hlt
        obtain ⟨e, he⟩ : ∃ e, c k = e := ⟨_, rfl⟩
        have hpb := (olB_p (HOR.out.2.2 k hlt)).2.2
        rw [he] at k0 hpb
        obtain ⟨it, q, p⟩ := e
        have HX : Hid (c k = ⟨it, q, p⟩) := he
        obtain ⟨c0, c1, c2⟩ := k0
        simp only at c0 c1 c2 hpb
        clear he
        go_wp2
        have hC : CB (wo.alloc (.cells #[.string it, .int .i64 q, .int .i64 p] 49 (0, 0))) wo.heap.size #[.string it, .int .i64 q, .int .i64 p] 49 := CB.new _ _
        have hG : GH w #[.int .i64 tov, .int .i64 tpr, .int .i64 tle] g0 o0 len (gS rc nr) X csb k FM cs (wo.alloc (.cells #[.string it, .int .i64 q, .int .i64 p] 49 (0, 0))) := HG.out.below ((Below.refl _ _).alloc (Nat.le_refl _) _)
        have hlo := HG.out.l.lt
        clear c0 c1 c2
        generalize wo.alloc (.cells #[.string it, .int .i64 q, .int .i64 p] 49 (0, 0)) = W1 at hC hG ⊢
        obtain ⟨B, hB⟩ : ∃ B, wo.heap.size = B := ⟨_, rfl⟩
        rw [hB] at hC hlo ⊢
        clear hB
        obtain ⟨G, hGv⟩ : ∃ G, gS rc nr k = G := ⟨_, rfl⟩
        obtain ⟨Q, hQv⟩ : ∃ Q, bS bc nb k = Q := ⟨_, rfl⟩
        obtain ⟨E, hEv⟩ : ∃ E, dS bc nb k = E := ⟨_, rfl⟩
        have hbd := HBD.out k
        rw [hQv, hEv] at hbd
        have s0 : W1.cell? ⟨g0, o0 + k, none⟩ = some (.int .i64 G) := by rw [hG.g k hlt, hGv]
        have s1 : W1.cell? ⟨X, k, none⟩ = some (.int .i64 Q) := by rw [hG.a.cell, HCB.out.2.1 k (by omega), hQv]
        have s2 : W1.cell? ⟨X, 60 + k, none⟩ = some (.int .i64 E) := by rw [hG.a.cell, HCB.out.2.2 k (by omega), hEv]
        have s3 : (W1.alloc (.cells #[.int .i64 0, .int .i64 0, .int .i64 0, .int .i64 0] 47 (0, 0))).cell? ⟨X, 60 + k, none⟩ = some (.int .i64 E) := by simp [World.cell?_alloc_some, s2]
        have s4 : (W1.alloc (.cells #[.int .i64 0, .int .i64 0, .int .i64 0, .int .i64 0] 47 (0, 0))).cell? ⟨X, k, none⟩ = some (.int .i64 Q) := by simp [World.cell?_alloc_some, s1]
        have s5 : (W1.alloc (.cells #[.int .i64 0, .int .i64 0, .int .i64 0, .int .i64 0] 47 (0, 0))).cell? ⟨g0, o0 + k, none⟩ = some (.int .i64 G) := by simp [World.cell?_alloc_some, s0]
        have hk60 : (k : Int) < 60 := by omega
        have HHC : Hid (CB W1 B #[.string it, .int .i64 q, .int .i64 p] 49) := hC
        have HHG : Hid (GH w #[.int .i64 tov, .int .i64 tpr, .int .i64 tle] g0 o0 len (gS rc nr) X csb k FM cs W1) := hG
        have HMK : Hid (FM k = ⟨G, Q, E, stV G Q E p tpr tle⟩) := hid (by rw [HFM.out, HX.out, hGv, hQv, hEv])
        have HLO : Hid (X + 1 < B) := hlo
        clear hC hG hGv hQv hEv hlo
        go_region
        have hG2 : GH w #[.int .i64 tov, .int .i64 tpr, .int .i64 tle] g0 o0 len (gS rc nr) X csb k FM cs (W1.alloc (.cells #[.int .i64 G, .int .i64 Q, .int .i64 E, .int .i64 0] 47 (0, 0))).drew := HHG.out.below (((Below.refl _ _).alloc (Nat.le_refl _) _).drew)
        have hC2 : CB ((W1.alloc (.cells #[.int .i64 G, .int .i64 Q, .int .i64 E, .int .i64 0] 47 (0, 0))).drew) B #[.string it, .int .i64 q, .int .i64 p] 49 := HHC.out.alloc _
        have hM2 : CB ((W1.alloc (.cells #[.int .i64 G, .int .i64 Q, .int .i64 E, .int .i64 0] 47 (0, 0))).drew) W1.heap.size #[.int .i64 G, .int .i64 Q, .int .i64 E, .int .i64 0] 47 := CB.new _ _
        have hB2 := HHC.out.lt
        clear s0 s1 s2 s3 s4 s5 HHC HHG
        generalize (W1.alloc (.cells #[.int .i64 G, .int .i64 Q, .int .i64 E, .int .i64 0] 47 (0, 0))).drew = W2 at hG2 hC2 hM2 ⊢
        obtain ⟨B2, hBB⟩ : ∃ B2, W1.heap.size = B2 := ⟨_, rfl⟩
        rw [hBB] at hM2 hB2 ⊢
        clear hBB
        have hx2 : X + 1 < B2 := by have := HLO.out; omega
        have x0 := (hG2.t.cell 0).trans rfl
        have x1 := (hG2.t.cell 1).trans rfl
        have x2 := (hG2.t.cell 2).trans rfl
        have n0 := (hC2.cell 2).trans rfl
        have m0' := (hM2.cell 0).trans rfl
        have m1' := (hM2.cell 1).trans rfl
        have m2' := (hM2.cell 2).trans rfl
        have m3' := (hM2.cell 3).trans rfl
        have hne1 : ¬ X + 1 = B2 := by omega
        have hne2 : ¬ B2 = X + 1 := by omega
        obtain ⟨S, hS⟩ : ∃ S, stV G Q E p tpr tle = S := ⟨_, rfl⟩
        have HST : Hid (∀ W, Calls Try.prog 79 #[.agg #[.int .i64 tov, .int .i64 tpr, .int .i64 tle], .agg #[.int .i64 G, .int .i64 Q, .int .i64 E, .int .i64 0], .int .i64 p] W fun e w' => e = .returned (.int .i64 S) ∧ Below W.heap.size W w') := hid (fun W => by rw [← hS]; exact stateOf_any tov tpr tle G Q E 0 p W ⟨hbd.1, hbd.2.1⟩ hpb htl)
        have HMS : Hid (FM k = ⟨G, Q, E, S⟩) := hid (by rw [HMK.out, hS])
        clear hS hC2
        by_cases h1 : S = 1
        · have e1 := eq_t h1
          have HPN : Hid (P + E = payS FM (k + 1)) := hid (by rw [payS_t (by rw [HMS.out]; exact h1), HMS.out, HP.out])
          clear h1
          go_wp2_with (first | (go_at_call 79; go_loud (refine (HST.out _).mono ?_; rintro e w4 ⟨rfl, b4⟩; have hG4 : GH w #[.int .i64 tov, .int .i64 tpr, .int .i64 tle] g0 o0 len (gS rc nr) X csb k FM cs w4 := hG2.below b4; have hM4 : CB w4 B2 #[.int .i64 G, .int .i64 Q, .int .i64 E, .int .i64 0] 47 := hM2.below b4 hM2.lt; have m0 := (hM4.cell 0).trans rfl; have m1 := (hM4.cell 1).trans rfl; have m2 := (hM4.cell 2).trans rfl; have m3 := (hM4.cell 3).trans rfl; have n3 := hM4.fr 3; obtain ⟨v0, z0⟩ : ∃ v, cs[k * 4]? = some v := ⟨cs[k * 4]'(by have := HG.out.s; omega), Array.getElem?_eq_getElem (by have := HG.out.s; omega)⟩; obtain ⟨v1, z1⟩ : ∃ v, cs[k * 4 + 1]? = some v := ⟨cs[k * 4 + 1]'(by have := HG.out.s; omega), Array.getElem?_eq_getElem (by have := HG.out.s; omega)⟩; obtain ⟨v2, z2⟩ : ∃ v, cs[k * 4 + 2]? = some v := ⟨cs[k * 4 + 2]'(by have := HG.out.s; omega), Array.getElem?_eq_getElem (by have := HG.out.s; omega)⟩; obtain ⟨v3, z3⟩ : ∃ v, cs[k * 4 + 3]? = some v := ⟨cs[k * 4 + 3]'(by have := HG.out.s; omega), Array.getElem?_eq_getElem (by have := HG.out.s; omega)⟩; have y0 := (hG4.l.cell (k * 4)).trans z0; have y1 := (hG4.l.cell (k * 4 + 1)).trans z1; have y2 := (hG4.l.cell (k * 4 + 2)).trans z2; have y3 := (hG4.l.cell (k * 4 + 3)).trans z3; have f0 := hG4.l.fr (k * 4); have f1 := hG4.l.fr (k * 4 + 1); have f2 := hG4.l.fr (k * 4 + 2); have f3 := hG4.l.fr (k * 4 + 3); have HG4 : Hid (GH w #[.int .i64 tov, .int .i64 tpr, .int .i64 tle] g0 o0 len (gS rc nr) X csb k FM cs w4) := hG4; clear hG4 hM4 b4 z0 z1 z2 z3 x0 x1 x2 n0 m0' m1' m2' m3')))
          go_roundw
          case rel => exact ⟨k + 1, _, P + E, by omega, by go_num, rfl, by omega, by omega, HPN, (HG4.out.new _ hx2).put hlt HMS.out⟩
          case measure => simp [intOf]; omega
        · have e1 := eq_f h1
          have HPN : Hid (P = payS FM (k + 1)) := hid (by rw [payS_f (by rw [HMS.out]; exact h1), HP.out])
          clear h1
          go_wp2_with (first | (go_at_call 79; go_loud (refine (HST.out _).mono ?_; rintro e w4 ⟨rfl, b4⟩; have hG4 : GH w #[.int .i64 tov, .int .i64 tpr, .int .i64 tle] g0 o0 len (gS rc nr) X csb k FM cs w4 := hG2.below b4; have hM4 : CB w4 B2 #[.int .i64 G, .int .i64 Q, .int .i64 E, .int .i64 0] 47 := hM2.below b4 hM2.lt; have m0 := (hM4.cell 0).trans rfl; have m1 := (hM4.cell 1).trans rfl; have m2 := (hM4.cell 2).trans rfl; have m3 := (hM4.cell 3).trans rfl; have n3 := hM4.fr 3; obtain ⟨v0, z0⟩ : ∃ v, cs[k * 4]? = some v := ⟨cs[k * 4]'(by have := HG.out.s; omega), Array.getElem?_eq_getElem (by have := HG.out.s; omega)⟩; obtain ⟨v1, z1⟩ : ∃ v, cs[k * 4 + 1]? = some v := ⟨cs[k * 4 + 1]'(by have := HG.out.s; omega), Array.getElem?_eq_getElem (by have := HG.out.s; omega)⟩; obtain ⟨v2, z2⟩ : ∃ v, cs[k * 4 + 2]? = some v := ⟨cs[k * 4 + 2]'(by have := HG.out.s; omega), Array.getElem?_eq_getElem (by have := HG.out.s; omega)⟩; obtain ⟨v3, z3⟩ : ∃ v, cs[k * 4 + 3]? = some v := ⟨cs[k * 4 + 3]'(by have := HG.out.s; omega), Array.getElem?_eq_getElem (by have := HG.out.s; omega)⟩; have y0 := (hG4.l.cell (k * 4)).trans z0; have y1 := (hG4.l.cell (k * 4 + 1)).trans z1; have y2 := (hG4.l.cell (k * 4 + 2)).trans z2; have y3 := (hG4.l.cell (k * 4 + 3)).trans z3; have f0 := hG4.l.fr (k * 4); have f1 := hG4.l.fr (k * 4 + 1); have f2 := hG4.l.fr (k * 4 + 2); have f3 := hG4.l.fr (k * 4 + 3); have HG4 : Hid (GH w #[.int .i64 tov, .int .i64 tpr, .int .i64 tle] g0 o0 len (gS rc nr) X csb k FM cs w4) := hG4; clear hG4 hM4 b4 z0 z1 z2 z3 x0 x1 x2 n0 m0' m1' m2' m3')))
          go_roundw
          case rel => exact ⟨k + 1, _, P, by omega, by go_num, rfl, by omega, by omega, HPN, (HG4.out.new _ hx2).put hlt HMS.out⟩
          case measure => simp [intOf]; omega
      · obtain rfl : k = len := by omega
        have lkk : ¬ (k : Int) < (k : Int) := by omega
        go_wp2
        go_returns
        refine ⟨some ⟨X + 1, 0, none⟩, k, ?_, ?_, HG.out.bl⟩
        · rw [HYS.out.1, HYS.out.2.1, ← HP.out]; rfl
        · rw [HYS.out.1, HYS.out.2.2]
          exact .inr ⟨X + 1, cs, rfl, by have := HG.out.x; omega, HG.out.l, by rw [HG.out.s]; omega, HG.out.v⟩
  · have hmn := eq_f hm
    have hmn2 : (T != -1) = true := by simp [hm]
    have HV : Hid (mbB len c nr rc nb bc tov tpr tle = false) := hid (by simp [mbB, hT, hm])
    clear hm hT
    go_enter Try.func19, Try.ntmps19
    go_wp2_with (first | (go_at_call 42; go_loud (refine (implRec_any ad len cap c ar nr rcap rc tov tpr tle _ hl hn HS.out (HR.out.alloc _) (HRR.out.alloc _)).mono ?_; rintro e w1 ⟨adg, capg, rfl, o1, b1⟩; obtain ⟨C1, B1⟩ := tol_bl b1; rw [HT.out]; clear o1; have HT1 : Hid (CB w1 w.heap.size #[.int .i64 tov, .int .i64 tpr, .int .i64 tle] 40) := C1; have HB1 : Hid (Below w.heap.size w w1) := B1; clear b1 C1 B1)) | (go_at_call 78; go_loud (refine (gatherBill_any ab nb bcap bc len _ hnb (by omega) (HBR.out.below HB1.out)).mono ?_; rintro e w2 ⟨csb, rfl, hcs, hone, hval, b2⟩; rw [HBB.out]; have HCS : Hid (csb.size = 120) := hcs; have HON : Hid (csb.all (·.oneCell') = true) := hone; have HVL : Hid (biB len nb bc = true → (∀ j, j < 60 → csb[j]? = some (.int .i64 (bS bc nb j))) ∧ ∀ j, j < 60 → csb[60 + j]? = some (.int .i64 (dS bc nb j))) := hval; have HB2 : Hid (Below w.heap.size w w2) := bel_on HB1.out b2; have HBW : Hid (Below w1.heap.size w1 w2) := b2; clear hcs hone hval b2)) | ((with_reducible show wpList _ _ _ ((⟨_, Op.alloc 130, _, _, _, _⟩ : Oper) :: _) _ _); refine wpB_alloc rfl rfl ?_) | ((with_reducible show wpList _ _ _ ((⟨_, Op.store 130 (.tmp 12) _, _, _, _, _⟩ : Oper) :: _) _ _); go_loud (refine wpB_store (x := .tmp 12) (g := w2.heap.size) (cells := csb) (old := z120) rfl rfl (by simp [Act.eval, Act.put]) (by simp [Act.eval, Act.put]) (CB.new z120 _) HCS.out z120_size HON.out ?_; rw [setRow_new rfl])))
    go_returns
    exact mb_none HV.out (HB1.out.alloc HB1.out.size _)

end Go.Proofs.Ytghphlnpginmhaa
