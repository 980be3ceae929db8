/- What Roll tells, in the program. -/
import Derived.Test.YtkplhiahfebmlaaDoorRt
import Derived.Test.YtkplhiahfebmlaaDoorCi
namespace Go.Proofs.YtkplhiahfebmlaaDoor
open Go.ChangeShapes Go.WideShapes Go.ChangeAt Go.RowKit
set_option linter.unusedVariables false
set_option linter.unusedSimpArgs false

theorem bd_N' {B : Nat} {a w : World} (h : Below B a w) (q : Nat) : Below B a (w.drewN q) := ⟨h.os, h.tape, h.output, h.size, h.block⟩
theorem zeros_get (n j : Nat) (h : j < n) : (zeros n)[j]? = some (.int .i64 0) := by
  simp [zeros, madeCells, h, Nat.mod_one]

set_option maxRecDepth 20000 in
set_option maxHeartbeats 4000000 in
theorem implRoll_any (ad : Option Addr) (len cap : Nat) (c : Nat → C3) (ai : Option Addr) (leni capi : Nat) (z : Nat → Int) (w : World) (hl : (len : Int) ≤ 1048576) (hc : ∀ j, (c j).code.size ≤ maxLen) (hr : CR w ad len c) (hE : EL w) (hli : (leni : Int) ≤ 1048576) (hz : IR w ai leni z) :
    Calls Tryd.prog 13 #[.slice ad len cap, .slice ai leni capi] w (NewI (rm len c leni z) (rollL len c z (rm len c leni z)) w) := by
  have HL : Hid (∀ j, (c j).code.size ≤ maxLen) := hc
  have hn := (tn_le len c).2
  have h9 := hE.nine
  have hmf : ∀ (fn : Fn) (first cap : Array Value) (w : World), (Instr.makeFunc fn first cap).run Tryd.prog w = .ok (.func fn first cap) w := fun _ _ _ _ => rfl
  have HR1 : Hid (CR (w.alloc (.cells #[.slice ai leni capi] 25 (0, 0))) ad len c) := hr.alloc _
  have HE1 : Hid (EL (w.alloc (.cells #[.slice ai leni capi] 25 (0, 0)))) := hE.heap (fun b hb => heap_alloc_old _ _ hb)
  have HB1 : Hid (CB (w.alloc (.cells #[.slice ai leni capi] 25 (0, 0))) w.heap.size #[.slice ai leni capi] 25) := CB.new _ _
  have HY1 : Hid (Below w.heap.size w (w.alloc (.cells #[.slice ai leni capi] 25 (0, 0)))) := (Below.refl _ _).alloc (Nat.le_refl _) _
  have HZ : Hid (IR w ai leni z) := hz
  obtain ⟨n, hnn⟩ : ∃ n, tn len c = n := ⟨_, rfl⟩
  rw [hnn] at hn
  have HN : Hid (tn len c = n) := hnn
  have HTO : Hid (Calls Tryd.prog 42 #[.slice ad len cap] (w.alloc (.cells #[.slice ai leni capi] 25 (0, 0))) (TreeP len c (w.alloc (.cells #[.slice ai leni capi] 25 (0, 0))))) := treeOf_any ad len cap c _ hl HL.out HR1.out HE1.out
  clear hc hr hE hz
  by_cases hgood : leni = n ∧ totB leni z = true
  case neg =>
    have hm : rm len c leni z = 0 := by unfold rm; rw [if_neg (by rw [hnn]; exact hgood)]
    rw [hm]
    have HG : Hid (¬ (leni = n ∧ totB leni z = true)) := hgood
    clear hm hnn hgood
    go_enter Tryd.func13, Tryd.ntmps13
    go_wp2_with (first
      | (go_at_call 42; refine HTO.out.mono ?_; rintro e w2 ⟨T, mp, N, S, ns, rfl, hT2, hY2⟩
         rw [HN.out] at hT2
         obtain ⟨adn, capn, rfl⟩ := row_form hT2.nodes
         have t1 := hT2.top1
         have b2 : w2.cell? ⟨w.heap.size, 0, none⟩ = some (.slice ai leni capi) := ((HB1.out.below hY2 HB1.out.lt).cell 0).trans rfl
         have HY2 : Hid (Below w.heap.size w w2) := HY1.out.trans (hY2.mono (by simp))
         have HZ2 : Hid (IR w2 ai leni z) := HZ.out.below HY2.out
         clear hT2 hY2))
    by_cases hlen : leni = n
    · subst hlen
      have htb : totB leni z = false := by cases e : totB leni z with | false => rfl | true => exact absurd ⟨rfl, e⟩ HG.out
      go_quiet ((go_at_call 43; exact Calls.quiet_of_same (totalsOk_eq _ _ _ z _ hli HZ2.out htb)))
      go_wp2
      go_returns
      exact ⟨_, _, rfl, row_lower (World.ownsRow_made (base := w2.heap.size) w2 #[] 0 (Nat.le_refl _) (Nat.zero_le _) rfl) HY2.out.size, bd_N' (HY2.out.alloc HY2.out.size _) _⟩
    · have e1 : ((leni : Int) == (n : Int)) = false := eq_f (by omega)
      have e2 : ((leni : Int) != (n : Int)) = true := by simp [bne, e1]
      have e3 : (!((leni : Int) == (n : Int))) = true := by simp [e1]
      have e5 : (leni == n) = false := by simpa using hlen
      have e6 : decide (leni = n) = false := decide_eq_false hlen
      have e7 : (leni != n) = true := by simp [bne, e5]
      go_quiet (fail)
      go_wp2
      go_returns
      exact ⟨_, _, rfl, row_lower (World.ownsRow_made (base := w2.heap.size) w2 #[] 0 (Nat.le_refl _) (Nat.zero_le _) rfl) HY2.out.size, bd_N' (HY2.out.alloc HY2.out.size _) _⟩
  obtain ⟨rfl, htb⟩ := hgood
  have hm : rm len c leni z = leni := by unfold rm; rw [if_pos ⟨hnn.symm, htb⟩, hnn]
  rw [hm]
  have HTP : Hid (TotP leni z) := totB_iff.1 htb
  have HRT : Hid (RightTo c leni) := hnn ▸ tn_to len c
  have HUM : Hid (∀ i, i < leni → IsEnd (par c) leni i (i + um len c (i : Int))) := fun i hi => by have := um_in (len := len) (c := c) (a := i) (by omega); rw [hnn] at this; exact this
  have hmk := mk25 leni hli
  clear hm hnn
  go_enter Tryd.func13, Tryd.ntmps13
  go_wp2_with (first
    | (go_at_call 42; refine HTO.out.mono ?_; rintro e w2 ⟨T, mp, N, S, ns, rfl, hT2, hY2⟩
       rw [HN.out] at hT2
       obtain ⟨adn, capn, rfl⟩ := row_form hT2.nodes
       have t1 := hT2.top1
       have b2 : w2.cell? ⟨w.heap.size, 0, none⟩ = some (.slice ai leni capi) := ((HB1.out.below hY2 HB1.out.lt).cell 0).trans rfl
       have HLB : Hid (CB w2 w.heap.size #[.slice ai leni capi] 25) := HB1.out.below hY2 HB1.out.lt
       have HT2 : Hid (TR Tryd.prog w2 w.heap.size T mp leni c N S (.slice adn leni capn)) := hT2.lower (by simp)
       have HY2 : Hid (Below w.heap.size w w2) := HY1.out.trans (hY2.mono (by simp))
       have HZ2 : Hid (IR w2 ai leni z) := HZ.out.below HY2.out
       clear hT2 hY2))
  go_quiet ((go_at_call 43; exact Calls.quiet_of_same (totalsOk_eq _ _ _ z _ hli HZ2.out htb)))
  have T4 := ((HT2.out.drewN nq).alloc (.cells (zeros leni) 3 (0, 0))).alloc (.cells #[.slice (some ⟨w2.heap.size, 0, none⟩) leni leni] 25 (0, 0))
  have HT4 : Hid (TR Tryd.prog (((w2.drewN nq).alloc (.cells (zeros leni) 3 (0, 0))).alloc (.cells #[.slice (some ⟨w2.heap.size, 0, none⟩) leni leni] 25 (0, 0))) w.heap.size T mp leni c N S (.slice adn leni capn)) := T4
  have t4 := T4.top1
  have HC4 : Hid (CB (((w2.drewN nq).alloc (.cells (zeros leni) 3 (0, 0))).alloc (.cells #[.slice (some ⟨w2.heap.size, 0, none⟩) leni leni] 25 (0, 0))) w2.heap.size (zeros leni) 3) := (CB.newAt rfl _ _).alloc _
  have HR4 : Hid (CB (((w2.drewN nq).alloc (.cells (zeros leni) 3 (0, 0))).alloc (.cells #[.slice (some ⟨w2.heap.size, 0, none⟩) leni leni] 25 (0, 0))) (w2.heap.size + 1) #[.slice (some ⟨w2.heap.size, 0, none⟩) leni leni] 25) := CB.newAt (by show (World.alloc _ _).heap.size = _; simp) _ _
  have HL4 : Hid (CB (((w2.drewN nq).alloc (.cells (zeros leni) 3 (0, 0))).alloc (.cells #[.slice (some ⟨w2.heap.size, 0, none⟩) leni leni] 25 (0, 0))) w.heap.size #[.slice ai leni capi] 25) := ((show CB (w2.drewN nq) w.heap.size #[.slice ai leni capi] 25 from HLB.out).alloc _).alloc _
  have hw2 := HY2.out.size
  have HY4 : Hid (Below w.heap.size w (((w2.drewN nq).alloc (.cells (zeros leni) 3 (0, 0))).alloc (.cells #[.slice (some ⟨w2.heap.size, 0, none⟩) leni leni] 25 (0, 0)))) := ((bd_N' HY2.out nq).alloc hw2 _).alloc (by simp; omega) _
  clear T4
  go_wp2
  go_loopw [33] (fun i wr => ∃ (k : Nat), k ≤ leni ∧ i = .int .i64 (k : Int) ∧ TR Tryd.prog wr w.heap.size T mp leni c N S (.slice adn leni capn) ∧ CB wr (w2.heap.size + 1) #[.slice (some ⟨w2.heap.size, 0, none⟩) leni leni] 25 ∧ CB wr w.heap.size #[.slice ai leni capi] 25 ∧ (∃ cs, CB wr w2.heap.size cs 3 ∧ cs.size = leni ∧ (∀ j, j < k → cs[j]? = some (.int .i64 (rv len c z j))) ∧ (∀ j, k ≤ j → j < leni → cs[j]? = some (.int .i64 0))) ∧ Below w.heap.size w wr) (fun i _ => leni - (intOf i).toNat)
  case atStart => exact ⟨0, Nat.zero_le _, rfl, HT4.out, HR4.out, HL4.out, ⟨_, HC4.out, zeros_size _, fun j hj => by omega, fun j _ hj => zeros_get _ _ hj⟩, HY4.out⟩
  case round =>
    obtain ⟨k, hk, rfl, hT, hRb, hLb, ⟨cs, hC, hcs, hlo, hhi⟩, hB⟩ := hrel
    have hsz := hB.size
    have hw2r := hC.lt
    by_cases hlt : k < leni
    · have hlt2 : (k : Int) < (leni : Int) := by omega
      obtain ⟨g, cp, eg, _, _, hcell⟩ := row_get hT.nodes hlt
      obtain ⟨rfl, rfl⟩ : adn = some ⟨g, 0, none⟩ ∧ capn = cp := by simp only [Value.slice.injEq] at eg; exact ⟨eg.1, eg.2.2⟩
      have e1 : wr.cell? ⟨g, k, none⟩ = some (.pointer (some ⟨N (k + 1), 0, none⟩)) := by rw [hcell k hlt]; simp [ptrs, hlt, pn]
      have HW : Hid (Calls Tryd.prog 44 #[.pointer (some ⟨N (k + 1), 0, none⟩), .func (Fn.func 45) #[] #[.pointer (some ⟨w2.heap.size + 1, 0, none⟩), .pointer (some ⟨wr.heap.size, 0, none⟩), .pointer (some ⟨w.heap.size, 0, none⟩)]] (wr.alloc (.cells #[.int .i64 (k : Int)] 3 (0, 0))) fun e w' => e = .returned (.tuple #[]) ∧ TR Tryd.prog w' w.heap.size T mp leni c N S (.slice (some ⟨g, 0, none⟩) leni capn) ∧ CB w' (w2.heap.size + 1) #[.slice (some ⟨w2.heap.size, 0, none⟩) leni leni] 25 ∧ CB w' w.heap.size #[.slice ai leni capi] 25 ∧ (∃ cs, CB w' w2.heap.size cs 3 ∧ cs.size = leni ∧ (∀ j, j < k + 1 → cs[j]? = some (.int .i64 (rv len c z j))) ∧ (∀ j, k + 1 ≤ j → j < leni → cs[j]? = some (.int .i64 0))) ∧ Below w.heap.size w w') := by
        obtain ⟨kb, off, rfl, hkb⟩ := HZ.out.addr (by omega)
        have hlb := HLB.out.lt
        have base0 : TR Tryd.prog (wr.alloc (.cells #[.int .i64 (k : Int)] 3 (0, 0))) w.heap.size T mp leni c N S (.slice (some ⟨g, 0, none⟩) leni capn) := hT.alloc _
        have hW := walk45_any (fun t w' => TR Tryd.prog w' w.heap.size T mp leni c N S (.slice (some ⟨g, 0, none⟩) leni capn) ∧ CB w' (w2.heap.size + 1) #[.slice (some ⟨w2.heap.size, 0, none⟩) leni leni] 25 ∧ CB w' w.heap.size #[.slice (some ⟨kb, off, none⟩) leni capi] 25 ∧ CB w' wr.heap.size #[.int .i64 (k : Int)] 3 ∧ (∃ cs, CB w' w2.heap.size cs 3 ∧ cs.size = leni ∧ (∀ j, j < k → cs[j]? = some (.int .i64 (rv len c z j))) ∧ cs[k]? = some (.int .i64 (sm z t - sm z k)) ∧ (∀ j, k + 1 ≤ j → j < leni → cs[j]? = some (.int .i64 0))) ∧ Below w.heap.size w w' ∧ k ≤ t ∧ t ≤ leni)
          (w2.heap.size + 1) wr.heap.size w.heap.size hn HRT.out (fun t w' q => q.1) (fun t w' ht q => ?_) _ k (k + um len c (k : Int)) rfl hlt (HUM.out k hlt) (wr.alloc (.cells #[.int .i64 (k : Int)] 3 (0, 0))) ⟨base0, hRb.alloc _, hLb.alloc _, CB.new _ _, ⟨cs, hC.alloc _, hcs, hlo, by rw [hhi k (Nat.le_refl _) hlt]; simp, fun j h1 h2 => hhi j (by omega) h2⟩, hB.alloc hsz _, Nat.le_refl _, by omega⟩
        · refine hW.mono ?_
          rintro e w3 ⟨rfl, y1, y2, y3, _, ⟨cs3, x1, x2, x3, x4, x5⟩, y5, _, _⟩
          refine ⟨rfl, y1, y2, y3, ⟨cs3, x1, x2, fun j hj => ?_, x5⟩, y5⟩
          by_cases e : j = k
          · subst e; exact x4
          · exact x3 j (by omega)
        · obtain ⟨y1, y2, y3, y4, ⟨cs3, x1, x2, x3, x4, x5⟩, y5, y6, y7⟩ := q
          have hIR := (HZ.out.below y5).cell ht
          have hpl := y1.place (by omega : t + 1 ≤ leni)
          rw [show (((t + 1 : Nat) : Int) - 1) = (t : Int) by omega] at hpl
          have hbd := sm_small hn HTP.out.bound (a := k) (e := t + 1) (by omega) (by omega)
          have hes : sm z t - sm z k + z t = sm z (t + 1) - sm z k := by rw [sm_succ]; omega
          refine (rollPut_any (w2.heap.size + 1) wr.heap.size w.heap.size (N (t + 1)) w2.heap.size leni k t kb off capi (z t) (sm z t - sm z k) w' hn hlt ht ((y2.cell 0).trans rfl) ((y4.cell 0).trans rfl) ((y3.cell 0).trans rfl) hpl hIR ((x1.cell k).trans x4) (x1.fr k) ⟨by omega, by omega, by omega, (y1.node (t + 1) (by omega)).ne2 x1 (by decide), by omega⟩ (by rw [hes]; exact IntWalk.i64_in _ (by omega))).mono ?_
          rintro e w3 ⟨rfl, rfl⟩
          refine ⟨rfl, (y1.but x1 (by decide) (World.ownsRow_nil w' 0 3 1) (by decide) (fun x _ h1 _ => heap_set h1)).drew, (y2.other _ (by omega)).drewI, (y3.other _ (by omega)).drewI, (y4.other _ (by omega)).drewI, ⟨_, (x1.set k _).drewI, by simpa using x2, fun j hj => ?_, ?_, fun j h1 h2 => ?_⟩, (y5.setCell (by show w.heap.size ≤ w2.heap.size; omega) _).drew, by omega, by omega⟩
          · rw [get_set_ne (by omega)]; exact x3 j hj
          · rw [get_set_eq (by omega), hes]
          · rw [get_set_ne (by omega)]; exact x5 j h1 h2
      clear hT hRb hLb hC hcs hlo hhi hcell eg
      go_wp2_with (go_at_call 44; refine HW.out.mono ?_; rintro e w3 ⟨rfl, z1, z2, z3, z4, z5⟩; have HZ3 : Hid (TR Tryd.prog w3 w.heap.size T mp leni c N S (.slice (some ⟨g, 0, none⟩) leni capn) ∧ CB w3 (w2.heap.size + 1) #[.slice (some ⟨w2.heap.size, 0, none⟩) leni leni] 25 ∧ CB w3 w.heap.size #[.slice ai leni capi] 25 ∧ (∃ cs, CB w3 w2.heap.size cs 3 ∧ cs.size = leni ∧ (∀ j, j < k + 1 → cs[j]? = some (.int .i64 (rv len c z j))) ∧ (∀ j, k + 1 ≤ j → j < leni → cs[j]? = some (.int .i64 0))) ∧ Below w.heap.size w w3) := ⟨z1, z2, z3, z4, z5⟩; clear z1 z2 z3 z4 z5)
      go_roundw
      case rel =>
        obtain ⟨z1, z2, z3, z4, z5⟩ := HZ3.out
        exact ⟨k + 1, by omega, by go_num, z1, z2, z3, z4, z5⟩
      case measure => simp [intOf]; omega
    · obtain rfl : k = leni := by omega
      have r0 : wr.cell? ⟨w2.heap.size + 1, 0, none⟩ = some (.slice (some ⟨w2.heap.size, 0, none⟩) k k) := (hRb.cell 0).trans rfl
      have HF : Hid (wr.ownsRow w.heap.size 3 1 (.slice (some ⟨w2.heap.size, 0, none⟩) k k) k (rollL len c z k)) := by
        have := row_of_block (base := w.heap.size) hC hcs hw2 (by omega)
        have e : cs.toList = rollL len c z k := by
          apply List.ext_getElem?
          intro j
          rw [Array.getElem?_toList]
          by_cases hj : j < k
          · rw [hlo j hj, rollL_get _ _ _ _ _ hj]
          · rw [Array.getElem?_eq_none (by omega), List.getElem?_eq_none (by simp [rollL]; omega)]
        rw [e] at this
        exact this
      have HB : Hid (Below w.heap.size w wr) := hB
      clear hT hRb hLb hC hcs hlo hhi hB
      go_wp2
      go_returns
      exact ⟨_, _, rfl, HF.out, HB.out⟩

end Go.Proofs.YtkplhiahfebmlaaDoor
