/- Of drawn items each part stands at least one step lower than what it is part of, one of them just so, and what is part of nothing stands at 0; nothing is told of wrong items. -/
import Derived.Test.YtmbdeafpfdeigaaRows
import Derived.WalkKit
import Derived.ProofKit
import Derived.OpenShut
import Derived.ShutString
import Derived.ChangeOld
import Derived.Below
import Derived.Handy
import Derived.Carry
import Derived.Lib.SmallJoins
import Derived.Deep.SlicePairs
import Derived.Test.YtmbdeafpfdeigaaLr
namespace Go.Proofs.Ytmbdeafpfdeigaa.fnLevelled
open Go.ChangeShapes Go.WideShapes Go.ChangeAt Go.RowKit
set_option linter.unusedVariables false
set_option linter.unusedSimpArgs false

theorem own : ownKnob Try.prog.godebug = none := by kernel_rfl
theorem laidOut : laidOutB Try.prog = true := by kernel_rfl

set_option maxRecDepth 20000 in
set_option maxHeartbeats 4000000 in
theorem walk (a0 : Option Addr) (len0 cap0 : Nat) (z0 : List Int) (w : World) (w0 : IsRow .u8 w a0 len0 cap0 z0) :
    Calls Try.prog 6 #[.slice a0 len0 cap0] w fun e w' => e = .returned (.bool true) ∧ Below w.heap.size w w' := by
  by_cases hbig : (1048576 : Int) < (len0 : Int)
  · go_enter Try.func6, Try.ntmps6
    go_wp2_with (go_at_call 16; refine (big_t _ _ _ _ hbig).mono ?_; rintro e w1 ⟨rfl, ew⟩; replace ew := ew.symm; subst ew)
    go_returns
    exact ⟨rfl, Below.refl _ _⟩
  have hb2 : (len0 : Int) ≤ 1048576 := by omega
  have HDR : Hid (Calls Try.prog 29 #[.slice a0 len0 cap0] w (DlP w)) := drawLevels_any a0 len0 cap0 w hb2 (row_of w0)
  clear w0
  go_enter Try.func6, Try.ntmps6
  go_wp2_with (first
    | (go_at_call 16; refine (big_f _ _ _ _ hb2).mono ?_; rintro e wq ⟨rfl, ew⟩; replace ew := ew.symm; subst ew)
    | (go_at_call 29; refine HDR.out.mono ?_; rintro e w1 ⟨ia, n, ic, d, rfl, hn60, hr1, hd1, b1⟩; have HB1 : Hid (Below w.heap.size w w1) := b1; have HR1 : Hid (ITr w1 ia n d) := hr1; have HIZ : Hid (IZ n d) := hid (fun j hj => ⟨by have := (hd1 j hj).1; unfold maxLen; omega, by have := (hd1 j hj).2.1; omega, by have := (hd1 j hj).2.2; omega⟩); have hn1 : (n : Int) ≤ 1048576 := (by omega); have hmk := mkBo n hn1; have hnn : ((n : Int) != (n : Int)) = false := (by simp); have HLV := hid (implLevels_any ia n ic d w1 hn1 HIZ.out HR1.out); clear b1 hr1 hd1; cases hv : isB n d; (have HM : Hid (lvM n d = 0) := hid (by simp [lvM, hv])); rotate_left; (have HM : Hid (lvM n d = n) := hid (by simp [lvM, hv])); rotate_left)
    | (go_at_call 30; rw [HM.out] at HLV; refine HLV.out.mono ?_; rintro e w2 ⟨ga, gcap, rfl, o2, b2⟩; have HB2 : Hid (Below w1.heap.size w1 w2) := b2; have HO2 := hid o2.row; clear o2 b2)
    | (go_at_call 31; refine (specItems_eq ia n ic d _ _ hn1 HIZ.out (HR1.out.below HB2.out) hv).mono ?_; rintro e w3 ⟨rfl, b3⟩; have HB3 : Hid (Below w2.heap.size w2 w3) := b3; clear b3))
  · go_returns
    exact ⟨rfl, bel_on (bel_on HB1.out HB2.out) HB3.out⟩
  have HL : Hid (LvOk n d) := hid (itB_lv (fun j hj => (isB_p hv).2.1 j hj))
  have HW3 : Hid (Below w.heap.size w w3 ∧ ITr w3 ia n d ∧ IR w3 ga n (lvS d n)) := hid ⟨bel_on (bel_on HB1.out HB2.out) HB3.out, (HR1.out.below HB2.out).below HB3.out, HO2.out.below HB3.out⟩
  have HM0 : Hid (MK n d (lvS d n) w3.heap.size (w3.heap.size + 1) 0 0 (fun _ => false) (fun _ => false) ((w3.alloc (.cells (zerosB n) 4)).alloc (.cells (zerosB n) 4)) ∧ Below w3.heap.size w3 ((w3.alloc (.cells (zerosB n) 4)).alloc (.cells (zerosB n) 4))) := hid (by
    have hz : (zerosB n).size = n := size_madeCells _ _
    refine ⟨⟨⟨zerosB n, (CB.new _ _).alloc _, hz, fun j hj => zerosB_get hj⟩, ⟨zerosB n, CB.newAt (by simp) _ _, hz, fun j hj => zerosB_get hj⟩, fun p _ => ⟨(fun h => by cases h), ?_⟩, fun p _ => ⟨(fun h => by cases h), ?_⟩, by omega⟩, ((Below.refl _ _).alloc (Nat.le_refl _) _).alloc (by simp) _⟩
    · rintro ⟨i', k', h1, _⟩; omega
    · rintro ⟨i', k', h1, _⟩; omega)
  clear HDR HLV HB1 HB2 HB3 HR1 HO2 HM HIZ hmk
  have HTB : Hid (∃ W9 tb pb, W9 = (w3.alloc (.cells (zerosB n) 4)).alloc (.cells (zerosB n) 4) ∧ tb = w3.heap.size ∧ pb = w3.heap.size + 1) := ⟨_, _, _, rfl, rfl, rfl⟩
  clear HTB
  generalize (w3.alloc (.cells (zerosB n) 4)).alloc (.cells (zerosB n) 4) = W9 at HM0 ⊢
  obtain ⟨tb, htb⟩ : ∃ t, w3.heap.size = t := ⟨_, rfl⟩
  obtain ⟨pb, hpb⟩ : ∃ t, w3.heap.size + 1 = t := ⟨_, rfl⟩
  rw [hpb, htb] at HM0 ⊢
  have HSZ : Hid (w3.heap.size = tb ∧ pb = tb + 1) := hid ⟨htb, by omega⟩
  clear htb hpb hv
  obtain ⟨L, hLe⟩ : ∃ L, lvS d n = L := ⟨_, rfl⟩
  have HLE : Hid (lvS d n = L) := hLe
  rw [hLe] at HM0 HW3
  clear hLe
  have hlenn : ¬ (n : Int) < 0 := by omega
  go_loopw [7] (fun u wr => ∃ i : Nat, i ≤ n ∧ u = .int .i64 (i : Int) ∧ Hid ((∃ f g, MK n d L tb pb i 0 f g wr) ∧ Below w3.heap.size w3 wr)) (fun u _ => n - (intOf u).toNat)
  case atStart => exact ⟨0, Nat.zero_le _, rfl, hid ⟨⟨_, _, HM0.out.1⟩, by rw [HSZ.out.1]; exact HM0.out.2⟩⟩
  case round =>
    clear HM0
    obtain ⟨i, hi, rfl, HH⟩ := hrel
    obtain ⟨wo, rfl⟩ : ∃ x, x = wr := ⟨wr, rfl⟩
    by_cases hlt : i < n
    · have hlt2 : (i : Int) < (n : Int) := by omega
      have hpn30 : (d i).parn ≤ 30 := (HL.out i hlt).1
      go_wp2
      go_loopw [8] (fun u wr => ∃ k : Nat, k ≤ (d i).parn ∧ u = .int .i64 (k : Int) ∧ Hid ((∃ f g, MK n d L tb pb i k f g wr) ∧ Below w3.heap.size w3 wr)) (fun u _ => (d i).parn - (intOf u).toNat)
      case atStart => exact ⟨0, Nat.zero_le _, rfl, HH⟩
      case round =>
        clear HH
        obtain ⟨k, hk, rfl, HH⟩ := hrel
        obtain ⟨wi, rfl⟩ : ∃ x, x = wr := ⟨wr, rfl⟩
        obtain ⟨kb, off, rfl, hkb⟩ := (HW3.out.2.1.below HH.out.2).addr (by omega)
        obtain ⟨ra, rc, sa, sc, _, _, c0, c1, c2, c3, c4, r5, r6⟩ := (HW3.out.2.1.below HH.out.2).cell hlt
        clear c0 c1 c2 c4 r6
        by_cases hkt : k < (d i).parn
        · have hkt2 : (k : Int) < ((d i).parn : Int) := by omega
          obtain ⟨kc, of2, rfl, hkc⟩ := r5.addr (by omega)
          have hpc := r5.cell hkt
          unfold AtPA at hpc
          obtain ⟨p0, _⟩ := hpc
          obtain ⟨hi0, hi1⟩ := (HL.out i hlt).2 k hkt
          obtain ⟨P, hP⟩ : ∃ P : Nat, ((d i).parz k).item = (P : Int) := ⟨((d i).parz k).item.toNat, by omega⟩
          have hPn : P < n := by omega
          have hPn2 : (P : Int) < (n : Int) := by omega
          rw [hP] at p0
          have HPI : Hid (((d i).parz k).item.toNat = P) := hid (by omega)
          have hlow : L i + 1 ≤ L P := by have := lv_low HL.out hlt hkt; rw [HLE.out, HPI.out] at this; exact this
          have hbd := lvS_bd HL.out n (Nat.le_refl _)
          rw [HLE.out] at hbd
          have hbi := hbd i
          have hbP := hbd P
          have hLi := HW3.out.2.2.below HH.out.2
          obtain ⟨gb, gof, rfl, hgb⟩ := HW3.out.2.2.addr (by omega)
          have HGB : Hid (gb < tb) := hid (by rw [← HSZ.out.1]; exact hgb)
          have hgP : gb ≠ pb := by have := HGB.out; have := HSZ.out.2; omega
          obtain ⟨f, g, mk⟩ := HH.out.1
          have MKH : Hid (MK n d L tb pb i k f g wi) := mk
          have q1 := mk.p.cell hPn
          have q2 := mk.p.fr P
          have HST : Hid (IR (wi.setCell ⟨pb, P, none⟩ (.bool true)) (some ⟨gb, gof, none⟩) n L ∧ BA (wi.setCell ⟨pb, P, none⟩ (.bool true)) tb n f ∧ BA (wi.setCell ⟨pb, P, none⟩ (.bool true)) pb n (fun j => if j = P then true else g j) ∧ Below w3.heap.size w3 (wi.setCell ⟨pb, P, none⟩ (.bool true))) := hid ⟨IR.other hLi _ hgP, mk.t.other mk.ne, mk.p.set hPn true, HH.out.2.setCell (by show w3.heap.size ≤ pb; have h1 := HSZ.out.1; have h2 := HSZ.out.2; omega) _⟩
          clear r5 hi0 hi1 hP hkb hkc hbd mk HH hLi
          generalize hgv : g P = gv at q1
          clear hgv
          go_wp2
          clear q1 q2 p0 c3
          generalize wi.setCell ⟨pb, P, none⟩ (.bool true) = V1 at HST ⊢
          have y1 := HST.out.1.cell hPn
          have y2 := HST.out.1.cell hlt
          obtain ⟨A, hA⟩ : ∃ x, L P = x := ⟨_, rfl⟩
          obtain ⟨B, hB⟩ : ∃ x, L i = x := ⟨_, rfl⟩
          have HAB : Hid (L P = A ∧ L i = B) := hid ⟨hA, hB⟩
          rw [hA] at y1 hlow hbP
          rw [hB] at y2 hlow hbi
          clear hA hB
          have hwB : IntKind.i64.wrap (B + 1) = B + 1 := IntWalk.i64_in _ ⟨by omega, by omega⟩
          have hnl : ¬ A < B + 1 := by omega
          have z1 : V1.drew.cell? ⟨gb, gof + P, none⟩ = some (.int .i64 A) := y1
          have z2 : V1.drew.cell? ⟨gb, gof + i, none⟩ = some (.int .i64 B) := y2
          go_region
          go_wp2
          by_cases hT : A = B + 1
          · have hT2 : (A == B + 1) = true := by simp; omega
            have t1 : V1.drew.drew.cell? ⟨tb, P, none⟩ = some (.bool (f P)) := HST.out.2.1.cell hPn
            have t2 : V1.drew.drew.frozen? ⟨tb, P, none⟩ = false := HST.out.2.1.fr P
            have HN : Hid ((∃ f g, MK n d L tb pb i (k + 1) f g (V1.drew.drew.setCell ⟨tb, P, none⟩ (.bool true))) ∧ Below w3.heap.size w3 (V1.drew.drew.setCell ⟨tb, P, none⟩ (.bool true))) := hid ⟨⟨_, _, ⟨BA.set (W := V1.drew.drew) HST.out.2.1 hPn true, BA.other (W := V1.drew.drew) HST.out.2.2.1 (by have := HSZ.out.2; omega), ht_yes MKH.out.ht hkt HPI.out (by rw [HAB.out.1, HAB.out.2]; exact hT), hp_step MKH.out.hp hkt HPI.out, MKH.out.ne⟩⟩, (HST.out.2.2.2.drew.drew).setCell (by show w3.heap.size ≤ tb; have h1 := HSZ.out.1; omega) _⟩
            subst hT
            generalize f P = fv at t1
            go_region
            go_wp2
            go_roundw
            case rel => exact ⟨k + 1, by omega, by go_num, HN⟩
            case measure => simp [intOf]; omega
          · have hT2 : (A == B + 1) = false := by simpa using hT
            have HN : Hid ((∃ f g, MK n d L tb pb i (k + 1) f g V1.drew.drew) ∧ Below w3.heap.size w3 V1.drew.drew) := hid ⟨⟨_, _, ⟨HST.out.2.1, HST.out.2.2.1, ht_no MKH.out.ht hkt HPI.out (by rw [HAB.out.1, HAB.out.2]; exact hT), hp_step MKH.out.hp hkt HPI.out, MKH.out.ne⟩⟩, HST.out.2.2.2.drew.drew⟩
            go_region
            go_wp2
            go_roundw
            case rel => exact ⟨k + 1, by omega, by go_num, HN⟩
            case measure => simp [intOf]; omega
        · obtain rfl : k = (d i).parn := by omega
          have lkk : ¬ ((d i).parn : Int) < ((d i).parn : Int) := by omega
          have HN : Hid ((∃ f g, MK n d L tb pb (i + 1) 0 f g wi) ∧ Below w3.heap.size w3 wi) := hid (by
            obtain ⟨⟨f, g, mk⟩, hb⟩ := HH.out
            exact ⟨⟨f, g, mk.t, mk.p, fun p hp => (mk.ht p hp).trans TT.next, fun p hp => (mk.hp p hp).trans PT.next, mk.ne⟩, hb⟩)
          clear HH
          go_wp2
          go_roundw
          case rel => exact ⟨i + 1, by omega, by go_num, HN⟩
          case measure => simp [intOf]; omega
    · obtain rfl : i = n := by omega
      have lii : ¬ (i : Int) < (i : Int) := by omega
      obtain ⟨f, g, mk⟩ := HH.out.1
      have HE : Hid (BA wo tb i f ∧ BA wo pb i g ∧ IR wo ga i L ∧ Below w3.heap.size w3 wo ∧ ∀ p, p < i → g p = f p ∧ (g p = false → L p = 0)) := hid ⟨mk.t, mk.p, HW3.out.2.2.below HH.out.2, HH.out.2, fun p hp => by have := mk_end (by rw [HLE.out]; exact mk) HL.out hp; rw [HLE.out] at this; exact this⟩
      clear HH mk
      go_wp2
      go_loopw [10] (fun u wr => ∃ p : Nat, p ≤ i ∧ u = .int .i64 (p : Int) ∧ Hid (BA wr tb i f ∧ BA wr pb i g ∧ IR wr ga i L ∧ Below w3.heap.size w3 wr)) (fun u _ => i - (intOf u).toNat)
      case atStart => exact ⟨0, Nat.zero_le _, rfl, hid ⟨HE.out.1, HE.out.2.1, HE.out.2.2.1, HE.out.2.2.2.1⟩⟩
      case round =>
        obtain ⟨p, hp, rfl, HG⟩ := hrel
        obtain ⟨wi, rfl⟩ : ∃ x, x = wr := ⟨wr, rfl⟩
        by_cases hpt : p < i
        · have hpt2 : (p : Int) < (i : Int) := by omega
          obtain ⟨e1, e2⟩ := HE.out.2.2.2.2 p hpt
          obtain ⟨gb, gof, rfl, _⟩ := HG.out.2.2.1.addr (by omega)
          have t1 : wi.drew.cell? ⟨tb, p, none⟩ = some (.bool (f p)) := HG.out.1.cell hpt
          have t2 : wi.drew.cell? ⟨pb, p, none⟩ = some (.bool (g p)) := HG.out.2.1.cell hpt
          have t3 : wi.drew.cell? ⟨gb, gof + p, none⟩ = some (.int .i64 (L p)) := HG.out.2.2.1.cell hpt
          have s1 : wi.cell? ⟨tb, p, none⟩ = some (.bool (f p)) := t1
          have s2 : wi.cell? ⟨pb, p, none⟩ = some (.bool (g p)) := t2
          have s3 : wi.cell? ⟨gb, gof + p, none⟩ = some (.int .i64 (L p)) := t3
          have HN : Hid (BA wi.drew tb i f ∧ BA wi.drew pb i g ∧ IR wi.drew (some ⟨gb, gof, none⟩) i L ∧ Below w3.heap.size w3 wi.drew) := hid ⟨HG.out.1, HG.out.2.1, HG.out.2.2.1, HG.out.2.2.2.drew⟩
          rw [e1] at t2 s2 e2
          clear e1
          cases hf : f p
          · rw [hf] at t1 t2 s1 s2 e2
            have e3 := e2 rfl
            rw [e3] at t3 s3
            clear e2 e3 hf
            go_wp2
            go_region
            all_goals go_wp2
            all_goals go_roundw
            case rel => exact ⟨p + 1, by omega, by go_num, HN⟩
            case measure => simp [intOf]; omega
          · rw [hf] at t1 t2 s1 s2
            clear e2 hf
            go_wp2
            go_region
            all_goals go_wp2
            all_goals go_roundw
            case rel => exact ⟨p + 1, by omega, by go_num, HN⟩
            case measure => simp [intOf]; omega
        · obtain rfl : p = i := by omega
          have lpp : ¬ (p : Int) < (p : Int) := by omega
          go_wp2
          go_returns
          exact ⟨rfl, bel_on HW3.out.1 HG.out.2.2.2⟩

set_option maxRecDepth 100000 in
theorem lifted (os : Os) (started : os.Started) (H : Type) (enc : TypeId × Value → H) :
    ReturnsInHanded {} Try.checked os 6 .any (Rows.fnLevelledSpec.pre6 enc Try.prog Try.f6 Rows.fnLevelledRow.domain false) (Rows.fnLevelledSpec.post enc Try.prog Try.f6 false true false false) := by
  refine returnsInHanded_of_change (C := Try.checked) own started (by kernel_rfl) Try.func6
    (ChangeSpec.witness6 (enc := enc) (C := Try.checked) false ⟨#[], #[.slice none 0 0], []⟩ 8 (by kernel_rfl) (by kernel_rfl) (by kernel_rfl) (by kernel_rfl)) ?_
  intro W base args ds gs before hval0 hW hcnd _
  have hval : ∀ (j : Nat) t v, Try.f6.params[j]? = some t → args[j]? = some v → Value.okWide Try.prog W .any base t v := hval0
  have hW' := hW
  obtain ⟨p, q, hA0, hV, rfl, hfz, hnd⟩ := hW
  have hA : DataW.TrodAll enc Try.prog W 0 (fun _ => true) true Try.f6.params.toList args.toList ds p := hA0
  rw [Try.params6] at hA hval
  obtain ⟨v0, vs0, d0, ds0, p0, q0, hargs, rfl, rfl, h0, r0⟩ := trodAll_cons hA
  obtain ⟨rfl, rfl, rfl⟩ := trodAll_nil r0
  obtain rfl : args = #[v0] := by cases args; simp_all
  obtain ⟨rfl, rfl⟩ := trodVars_none hV
  have k0 := h0
  have lt0 : ∀ x ∈ p0, x.block < W.heap.size := by obtain ⟨m, hm⟩ := k0; exact DataW.trod_lt m _ _ _ hm
  obtain ⟨a0, len0, cap0, rfl⟩ := okWide_slice Try.underlying22 (hval 0 22 v0 rfl rfl)
  obtain ⟨z0, w0⟩ : ∃ zs, IsRow .u8 W a0 len0 cap0 zs := by
    obtain ⟨fuel, hf⟩ := h0
    rcases open_ints Try.underlying22 Try.underlying5 (by kernel_rfl) hf with ⟨hcs, _⟩ | ⟨x, l, c, zs, hcs, _, hl, hm, hz, _, hcell, hwz⟩
    · simp [Value.cells] at hcs
      obtain ⟨rfl, rfl, rfl⟩ := hcs
      exact ⟨[], .inl ⟨rfl, rfl, rfl, rfl⟩⟩
    · simp [Value.cells] at hcs
      obtain ⟨rfl, rfl, rfl⟩ := hcs
      exact ⟨zs, .inr ⟨_, rfl, hl, hm, by simpa using hz, hcell, hwz⟩⟩
  clear hA0 hval0
  refine (walk a0 len0 cap0 z0 W w0).mono fun e W' ⟨he, hg⟩ => ?_
  subst he
  exact ⟨_, rfl, _, _, _, [], _, [], hW', (trodAll_cons_mk (shut_bool Try.underlying4 _) trodAll_mk0), (trodAll_cons_mk (Below.trod laidOut (by kernel_rfl) (of_decide_eq_true (by kernel_rfl)) k0 hg lt0) trodAll_mk0), rfl, hg.frame _, fun h => by cases h⟩

theorem over : Rows.fnLevelledRow.holds Try.pinned (OpenSpec.ofChange Rows.fnLevelledSpec) :=
  OpenClaim.holds_of_wide 6 Try.f6 rfl rfl rfl rfl rfl rfl rfl ⟨rfl, rfl, rfl, rfl, rfl⟩ rfl rfl rfl rfl rfl (by kernel_rfl) Try.func6 (by kernel_rfl)
    (of_decide_eq_true (by kernel_rfl)) (by unfold Func.isWrapper; first | (rw [if_pos (by decide +kernel)]; kernel_rfl) | (rw [if_neg (by decide +kernel)]; exact ⟨rfl, rfl⟩))
    (fun os started H enc _ => lifted os started H enc)

end Go.Proofs.Ytmbdeafpfdeigaa.fnLevelled

namespace Go.Proofs.Ytmbdeafpfdeigaa
theorem fnLevelled_holds : Rows.FnLevelledSaid := fnLevelled.over
#print axioms fnLevelled_holds
end Go.Proofs.Ytmbdeafpfdeigaa
