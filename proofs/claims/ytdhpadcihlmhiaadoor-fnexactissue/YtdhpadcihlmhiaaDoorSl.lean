/- ShowPaper, of the program and of the model: both tell 'showV'. -/
import Derived.Test.YtdhpadcihlmhiaaDoorSk
namespace Go.Proofs.YtdhpadcihlmhiaaDoor
open Go.ChangeShapes Go.WideShapes Go.ChangeAt Go.RowKit
open Go.Lib (decDigits)
set_option linter.unusedVariables false
set_option linter.unusedSimpArgs false

def ShP (len : Nat) (c : Nat → S2) (np : Nat) (p : Nat → P4) (at_ : Int) : Prop := RegP len c np p ∧ 0 ≤ at_ ∧ at_ < (np : Int)
open Classical in
noncomputable def showV (len : Nat) (c : Nat → S2) (np : Nat) (p : Nat → P4) (at_ : Int) : ByteArray := if ShP len c np p at_ then ptxt (c (p at_.toNat).ser.toNat) (p at_.toNat).num.toNat else ⟨#[]⟩
theorem showV_f {len : Nat} {c : Nat → S2} {np : Nat} {p : Nat → P4} {at_ : Int} (h : ¬ ShP len c np p at_) : showV len c np p at_ = ⟨#[]⟩ := by unfold showV; rw [if_neg h]
theorem showV_t {len : Nat} {c : Nat → S2} {np : Nat} {p : Nat → P4} {k i m : Nat} (h : ShP len c np p (k : Int)) (hi : (p k).ser = (i : Int)) (hm : (p k).num = (m : Int)) : showV len c np p (k : Int) = ptxt (c i) m := by
  unfold showV; rw [if_pos h]; simp only [Int.toNat_natCast]; rw [hi, hm]; simp only [Int.toNat_natCast]
theorem nameB_size {s : ByteArray} (h : nameB s = true) : s.size ≤ 20 := by
  unfold nameB at h
  simp at h
  exact h.2.2
/-- What a right register says of each of its papers. -/
theorem RegP.pap {len : Nat} {c : Nat → S2} {np : Nat} {p : Nat → P4} (H : RegP len c np p) {k : Nat} (hk : k < np) : ∃ i m : Nat, (p k).ser = (i : Int) ∧ i < len ∧ (p k).num = (m : Int) ∧ m ≤ 1000 ∧ dg m ≤ (c i).wid ∧ (c i).wid ≤ 8 ∧ (c i).pre.size ≤ 20 := by
  obtain ⟨h1, h2⟩ := H.2 k hk
  obtain ⟨g1, g2, g3, g4, g5⟩ := refN_of h1
  have hf := H.few
  have hc := cntP_le p (p k).ser k
  refine ⟨(p k).ser.toNat, cntP p (p k).ser k + 1, by omega, by omega, by omega, by omega, g5, ?_, ?_⟩
  · have := (H.1.2 (p k).ser.toNat (by omega)).1
    unfold sOkB at this
    simp at this
    exact this.2.2
  · have := (H.1.2 (p k).ser.toNat (by omega)).1
    unfold sOkB at this
    simp only [Bool.and_eq_true] at this
    exact nameB_size this.1

set_option maxRecDepth 20000 in
set_option maxHeartbeats 4000000 in
theorem implShow_any (ad : Option Addr) (len cap : Nat) (c : Nat → S2) (ap : Option Addr) (np pcap : Nat) (p : Nat → P4) (at_ : Int) (w : World) (h : (len : Int) ≤ 1048576) (hcap : len ≤ cap) (hs : ∀ j, (c j).pre.size ≤ maxLen) (hr : SRw w ad len c) (hn : (np : Int) ≤ 1048576) (hp : PRw w ap np p) (hw : ∀ j, (Lit.int .i64 (p j).ser).wf = true) (hT : TP w) :
    Calls Tryd.prog 21 #[.agg #[.slice ad len cap, .slice ap np pcap], .int .i64 at_] w fun e w' => e = .returned (.string (showV len c np p at_)) ∧ Below w.heap.size w w' := by
  have HR : Hid (SRw w ad len c) := hr
  have HP : Hid (PRw w ap np p) := hp
  have HT : Hid (TP w) := hT
  have HBA : Hid (Below w.heap.size w (w.alloc (.cells #[.slice ad len cap, .slice ap np pcap] 27 (0, 0)))) := (Below.refl _ _).alloc (Nat.le_refl _) _
  have HC : ∀ v, regB len c np p = v → Calls Tryd.prog 16 #[.agg #[.slice ad len cap, .slice ap np pcap]] (w.alloc (.cells #[.slice ad len cap, .slice ap np pcap] 27 (0, 0))) fun e w' => e = .returned (.bool v) ∧ Below (w.alloc (.cells #[.slice ad len cap, .slice ap np pcap] 27 (0, 0))).heap.size (w.alloc (.cells #[.slice ad len cap, .slice ap np pcap] 27 (0, 0))) w' := fun v hv => implReg_any ad len cap c ap np pcap p v _ h hcap hs (hr.below HBA.out) hn (hp.below HBA.out) hw (hT.below HBA.out) hv
  clear hr hp hT hw hs
  cases hb : regB len c np p
  · have HCF := hid (HC _ hb)
    have HV : Hid (showV len c np p at_ = ⟨#[]⟩) := showV_f fun H => by rw [regB_t H.1] at hb; cases hb
    clear HC hb
    go_enter Tryd.func21, Tryd.ntmps21
    go_wp2_with (go_at_call 16; go_loud (refine HCF.out.mono ?_; rintro e w1 ⟨rfl, b1⟩; have HB1 : Hid (Below w.heap.size w w1) := bel_on HBA.out b1; clear b1 HCF))
    go_returns
    exact ⟨ret_str HV.out.symm, HB1.out⟩
  have HCF := hid (HC _ hb)
  have HRP : Hid (RegP len c np p) := regB_of hb
  clear HC hb
  cases hq : plB at_ (np : Int)
  · have HPL : Hid (plB at_ (np : Int) = false) := hq
    have HV : Hid (showV len c np p at_ = ⟨#[]⟩) := showV_f fun H => of_decide_eq_false hq H.2
    clear hq
    go_enter Tryd.func21, Tryd.ntmps21
    go_wp2_with (first
      | (go_at_call 16; go_loud (refine HCF.out.mono ?_; rintro e w1 ⟨rfl, b1⟩; have HB1 : Hid (Below w.heap.size w w1) := bel_on HBA.out b1; have X1 : CB w1 w.heap.size #[.slice ad len cap, .slice ap np pcap] 27 := (CB.new _ _).below b1 (by simp); have k1 := (X1.cell 1).trans rfl; clear b1 HCF X1))
      | (go_at_call 59; refine (isPlace_eq HPL.out).mono ?_; rintro e w2 ⟨rfl, ew⟩; replace ew := ew.symm; subst ew))
    go_returns
    exact ⟨ret_str HV.out.symm, HB1.out⟩
  have HPL : Hid (plB at_ (np : Int) = true) := hq
  have hq2 := of_decide_eq_true hq
  clear hq
  obtain ⟨k, rfl⟩ : ∃ k : Nat, at_ = (k : Int) := ⟨at_.toNat, by omega⟩
  have hk : k < np := by omega
  have hk2 : (k : Int) < (np : Int) := by omega
  obtain ⟨i, m, hse, hi, hnu, hm, hd1, hd2, hpz⟩ := HRP.out.pap hk
  obtain ⟨kp, offp, rfl, hkp⟩ := HP.out.addr (by omega)
  obtain ⟨X, hX⟩ : ∃ X, ptxt (c i) m = X := ⟨_, rfl⟩
  have HTX : Hid (ptxt (c i) m = X) := hX
  have HV : Hid (showV len c np p (k : Int) = X) := hid (by rw [showV_t ⟨HRP.out, hq2⟩ hse hnu, hX])
  have HSE : Hid ((p k).ser = (i : Int)) := hse
  have HNU : Hid ((p k).num = (m : Int)) := hnu
  clear hX hse hnu
  go_enter Tryd.func21, Tryd.ntmps21
  go_wp2_with (first
    | (go_at_call 16; go_loud (refine HCF.out.mono ?_; rintro e w1 ⟨rfl, b1⟩; have HB1 : Hid (Below w.heap.size w w1) := bel_on HBA.out b1; have X1 : CB w1 w.heap.size #[.slice ad len cap, .slice (some ⟨kp, offp, none⟩) np pcap] 27 := (CB.new _ _).below b1 (by simp); have k0 := (X1.cell 0).trans rfl; have k1 := (X1.cell 1).trans rfl; have hA := (HP.out.below HB1.out).cell hk; unfold AtP4 at hA; rw [HSE.out, HNU.out] at hA; obtain ⟨y0, y1, y2, y3⟩ := hA; obtain ⟨pd, hpd⟩ : ∃ x, (p k).day = x := ⟨_, rfl⟩; obtain ⟨pv, hpv⟩ : ∃ x, (p k).vd = x := ⟨_, rfl⟩; rw [hpd] at y2; rw [hpv] at y3; have hB1 : Below w1.heap.size w1 w1 := Below.refl _ _; have hB1d : Below w1.heap.size w1 w1.drew := (Below.refl _ _).drew; clear b1 HCF X1 hpd hpv))
    | (go_at_call 59; refine (isPlace_eq HPL.out).mono ?_; rintro e w2 ⟨rfl, ew⟩; replace ew := ew.symm; subst ew))
  refine wp_region_noPanic ?_
  refine wp_region_held_drew (S := fun w' => w'.cell? ⟨w.heap.size, 0, none⟩ = some (.slice ad len cap) ∧ w'.cell? ⟨w.heap.size, 1, none⟩ = some (.slice (some ⟨kp, offp, none⟩) np pcap) ∧ w'.cell? ⟨kp, offp + k * 4, none⟩ = some (.int .i64 (i : Int)) ∧ w'.cell? ⟨kp, offp + k * 4 + 1, none⟩ = some (.int .i64 (m : Int)) ∧ w'.cell? ⟨kp, offp + k * 4 + 2, none⟩ = some (.int .i64 pd) ∧ w'.cell? ⟨kp, offp + k * 4 + 3, none⟩ = some (.bool pv) ∧ Below w1.heap.size w1 w') (by kernel_rfl) ?_ (fun hHeld => ?_)
  · (try dsimp only); refine ⟨?_, ?_, ?_, ?_, ?_, ?_, ?_⟩ <;> first | assumption | (simp [*, World.cell?_alloc_some]; done) | exact Below.alloc (by assumption) (by first | exact Nat.le_refl _ | simp) _
  refine wpAnyH_take (i := 0) (oi := { dst := some 16, op := Go.Op.load 27 (Go.Operand.tmp 2), type := 27, pos := "l11_papers.go:193", after := #[], guard := none }) (v := ?_) rfl (by kernel_rfl) (by kernel_rfl) (by kernel_rfl) (fun _ _ _ h => h) (Or.inl ⟨by rfl, ?_⟩) (by assumption) ?_
  rotate_left
  · (intro w hSw; (try dsimp only at hSw); go_simp <;> try with_reducible rfl)
  try simp only [Act.put, List.setIfInBounds_toArray, List.set_cons_zero, List.set_cons_succ]
  refine wpAnyH_take (i := 1) (oi := { dst := some 17, op := Go.Op.fieldAddr 27 (Go.Operand.tmp 2) 1, type := 0, pos := "l11_papers.go:193", after := #[], guard := none }) (v := ?_) rfl (by kernel_rfl) (by kernel_rfl) (by kernel_rfl) (fun _ _ _ h => h) (Or.inl ⟨by rfl, ?_⟩) (by assumption) ?_
  rotate_left
  · (intro w hSw; (try dsimp only at hSw); go_simp <;> try with_reducible rfl)
  try simp only [Act.put, List.setIfInBounds_toArray, List.set_cons_zero, List.set_cons_succ]
  refine wpAnyH_take (i := 2) (oi := { dst := some 18, op := Go.Op.load 25 (Go.Operand.tmp 17), type := 25, pos := "l11_papers.go:193", after := #[{ on := 1, ground := Go.Ground.data }], guard := none }) (v := ?_) rfl (by kernel_rfl) (by kernel_rfl) (by kernel_rfl) (fun _ _ _ h => h) (Or.inl ⟨by rfl, ?_⟩) (by assumption) ?_
  rotate_left
  · (intro w hSw; (try dsimp only at hSw); go_simp <;> try with_reducible rfl)
  try simp only [Act.put, List.setIfInBounds_toArray, List.set_cons_zero, List.set_cons_succ]
  refine wpAnyH_take (i := 3) (oi := { dst := some 19, op := Go.Op.move (Go.Operand.tmp 1), type := 3, pos := "l11_papers.go:193", after := #[], guard := none }) (v := ?_) rfl (by kernel_rfl) (by kernel_rfl) (by kernel_rfl) (fun _ _ _ h => h) (Or.inl ⟨by rfl, ?_⟩) (by assumption) ?_
  rotate_left
  · (intro w hSw; (try dsimp only at hSw); go_simp <;> try with_reducible rfl)
  try simp only [Act.put, List.setIfInBounds_toArray, List.set_cons_zero, List.set_cons_succ]
  refine wpAnyH_take (i := 4) (oi := { dst := some 20, op := Go.Op.indexAddr 25 (Go.Operand.tmp 18) (Go.Operand.tmp 19), type := 0, pos := "l11_papers.go:193", after := #[{ on := 2, ground := Go.Ground.data }, { on := 3, ground := Go.Ground.data }], guard := none }) (v := ?_) rfl (by kernel_rfl) (by kernel_rfl) (by kernel_rfl) (fun _ _ _ h => h) (Or.inl ⟨by rfl, ?_⟩) (by assumption) ?_
  rotate_left
  · (intro w hSw; (try dsimp only at hSw); go_simp <;> try with_reducible rfl)
  try simp only [Act.put, List.setIfInBounds_toArray, List.set_cons_zero, List.set_cons_succ]
  refine wpAnyH_take (i := 5) (oi := { dst := some 21, op := Go.Op.load 32 (Go.Operand.tmp 20), type := 32, pos := "l11_papers.go:193", after := #[{ on := 4, ground := Go.Ground.data }], guard := none }) (v := ?_) rfl (by kernel_rfl) (by kernel_rfl) (by kernel_rfl) (fun _ _ _ h => h) (Or.inl ⟨by rfl, ?_⟩) (by assumption) ?_
  rotate_left
  · (intro w hSw; (try dsimp only at hSw); go_simp <;> try with_reducible rfl)
  try simp only [Act.put, List.setIfInBounds_toArray, List.set_cons_zero, List.set_cons_succ]
  refine wpAnyH_ready (rs := [6]) (by kernel_rfl) (by simp) ?_
  refine AllReadyH.cons (o := { dst := some 22, op := Go.Op.call { callee := Go.Callee.value (Go.Operand.func 60), args := #[Go.Operand.tmp 16, Go.Operand.tmp 21], argTypes := #[27, 32] }, type := 9, pos := "l11_papers.go:193", after := #[{ on := 0, ground := Go.Ground.data }, { on := 5, ground := Go.Ground.data }], guard := none }) rfl (fun K hK => ?_) AllReadyH.nil
  go_simp
  (go_at_call 60; refine (regText_any _ _ _ c _ _ _ i m pd pv _ h (HR.out.below (bel_on HB1.out (by assumption))) (HT.out.below (bel_on HB1.out (by assumption))) hi hpz hd1 hd2 hm).mono ?_; rintro e w2 ⟨rfl, b2⟩; rw [HTX.out]; have q1_0 : w2.cell? ⟨w.heap.size, 0, none⟩ = some (.slice ad len cap) := keep_cell b2 (by simp [*]); have q1_1 : w2.cell? ⟨w.heap.size, 1, none⟩ = some (.slice (some ⟨kp, offp, none⟩) np pcap) := keep_cell b2 (by simp [*]); have q1_2 : w2.cell? ⟨kp, offp + k * 4, none⟩ = some (.int .i64 (i : Int)) := keep_cell b2 (by simp [*]); have q1_3 : w2.cell? ⟨kp, offp + k * 4 + 1, none⟩ = some (.int .i64 (m : Int)) := keep_cell b2 (by simp [*]); have q1_4 : w2.cell? ⟨kp, offp + k * 4 + 2, none⟩ = some (.int .i64 pd) := keep_cell b2 (by simp [*]); have q1_5 : w2.cell? ⟨kp, offp + k * 4 + 3, none⟩ = some (.bool pv) := keep_cell b2 (by simp [*]); have p1 : Below w1.heap.size w1 w2 := bel_on (by assumption) b2; clear b2)
  first | refine hK.out _ _ ?_ (fun hHeld => ?_) | (go_wp2_with fail; refine hK.out _ _ ?_ (fun hHeld => ?_))
  · (try dsimp only); refine ⟨?_, ?_, ?_, ?_, ?_, ?_, ?_⟩ <;> first | assumption | (simp [*, World.cell?_alloc_some]; done) | exact Below.alloc (by assumption) (by first | exact Nat.le_refl _ | simp) _
  clear hK K
  try simp only [Act.put, List.setIfInBounds_toArray, List.set_cons_zero, List.set_cons_succ]
  refine wpAnyH_ready (rs := [7]) (by kernel_rfl) (by simp) ?_
  refine AllReadyH.cons (o := { dst := some 4, op := Go.Op.assign (Go.Operand.tmp 22), type := 9, pos := "l11_papers.go:193", after := #[{ on := 6, ground := Go.Ground.data }, { on := 6, ground := Go.Ground.chain }, { on := 0, ground := Go.Ground.phase }, { on := 1, ground := Go.Ground.phase }, { on := 2, ground := Go.Ground.phase }, { on := 3, ground := Go.Ground.phase }, { on := 4, ground := Go.Ground.phase }, { on := 5, ground := Go.Ground.phase }, { on := 6, ground := Go.Ground.phase }], guard := none }) rfl (fun K hK => ?_) AllReadyH.nil
  go_simp
  skip
  first | refine hK.out _ _ ?_ (fun hHeld => ?_) | (go_wp2_with fail; refine hK.out _ _ ?_ (fun hHeld => ?_))
  · (try dsimp only); refine ⟨?_, ?_, ?_, ?_, ?_, ?_, ?_⟩ <;> first | assumption | (simp [*, World.cell?_alloc_some]; done) | exact Below.alloc (by assumption) (by first | exact Nat.le_refl _ | simp) _
  clear hK K
  try simp only [Act.put, List.setIfInBounds_toArray, List.set_cons_zero, List.set_cons_succ]
  refine wpAnyH_done (by kernel_rfl) ?_ _
  refine NoPanic.normal ?_
  go_wp2
  go_returns
  exact ⟨ret_str HV.out.symm, bel_on HB1.out p1⟩

theorem zT_next (j : Nat) (A : ByteArray) : (⟨#[48]⟩ : ByteArray) ++ (zT j ++ A) = zT (j + 1) ++ A := by
  apply ByteArray.ext
  apply Array.toList_inj.mp
  simp [zT, strB, List.replicate_succ]
def szOf : Value → Nat
  | .string s => s.size
  | _ => 0
theorem ba_assoc (a b c : ByteArray) : a ++ (b ++ c) = (a ++ b) ++ c := by
  apply ByteArray.ext
  simp
set_option maxRecDepth 20000 in
set_option maxHeartbeats 4000000 in
theorem specShow_any (ad : Option Addr) (len cap : Nat) (c : Nat → S2) (ap : Option Addr) (np pcap : Nat) (p : Nat → P4) (at_ : Int) (w : World) (h : (len : Int) ≤ 1048576) (hs : ∀ j, (c j).pre.size ≤ maxLen) (hr : SRw w ad len c) (hn : (np : Int) ≤ 1048576) (hp : PRw w ap np p) :
    Calls Tryd.prog 33 #[.agg #[.slice ad len cap, .slice ap np pcap], .int .i64 at_] w fun e w' => e = .returned (.string (showV len c np p at_)) ∧ Below w.heap.size w w' := by
  have HR : Hid (SRw w ad len c) := hr
  have HP : Hid (PRw w ap np p) := hp
  have HBA : Hid (Below w.heap.size w (w.alloc (.cells #[.slice ad len cap, .slice ap np pcap] 27 (0, 0)))) := (Below.refl _ _).alloc (Nat.le_refl _) _
  have HC := specReg_any ad len cap c ap np pcap p (w.alloc (.cells #[.slice ad len cap, .slice ap np pcap] 27 (0, 0))) h hs (hr.below HBA.out) hn (hp.below HBA.out)
  clear hr hp hs
  cases hb : regB len c np p
  · rw [hb] at HC
    have HCF := hid HC
    have HV : Hid (showV len c np p at_ = ⟨#[]⟩) := showV_f fun H => by rw [regB_t H.1] at hb; cases hb
    clear HC hb
    go_enter Tryd.func33, Tryd.ntmps33
    go_wp2_with (go_at_call 15; go_loud (refine HCF.out.mono ?_; rintro e w1 ⟨rfl, b1⟩; have HB1 : Hid (Below w.heap.size w w1) := bel_on HBA.out b1; clear b1 HCF))
    go_returns
    exact ⟨ret_str HV.out.symm, HB1.out⟩
  have HRP : Hid (RegP len c np p) := regB_of hb
  rw [hb] at HC
  have HCF := hid HC
  clear HC hb
  cases hq : inB at_ 0 ((np : Int) - 1)
  · have HIN : Hid (inB at_ 0 ((np : Int) - 1) = false) := hq
    have HV : Hid (showV len c np p at_ = ⟨#[]⟩) := showV_f fun H => inB_f hq ⟨H.2.1, by have := H.2.2; omega⟩
    clear hq
    go_enter Tryd.func33, Tryd.ntmps33
    go_wp2_with (first
      | (go_at_call 15; go_loud (refine HCF.out.mono ?_; rintro e w1 ⟨rfl, b1⟩; have HB1 : Hid (Below w.heap.size w w1) := bel_on HBA.out b1; have X1 : CB w1 w.heap.size #[.slice ad len cap, .slice ap np pcap] 27 := (CB.new _ _).below b1 (by simp); have k1 := (X1.cell 1).trans rfl; clear b1 HCF X1))
      | (go_at_call 51; refine (l1In_eq HIN.out).mono ?_; rintro e w2 ⟨rfl, ew⟩; replace ew := ew.symm; subst ew))
    go_returns
    exact ⟨ret_str HV.out.symm, HB1.out⟩
  have HIN : Hid (inB at_ 0 ((np : Int) - 1) = true) := hq
  have hq2 := inB_t hq
  clear hq
  obtain ⟨k, rfl⟩ : ∃ k : Nat, at_ = (k : Int) := ⟨at_.toNat, by omega⟩
  have hk : k < np := by omega
  have hk2 : (k : Int) < (np : Int) := by omega
  obtain ⟨i, m, hse, hi, hnu, hm, hd1, hd2, hpz⟩ := HRP.out.pap hk
  have hi2 : (i : Int) < (len : Int) := by omega
  obtain ⟨kp, offp, rfl, hkp⟩ := HP.out.addr (by omega)
  obtain ⟨kb, off, rfl, hkb⟩ := HR.out.addr (by omega)
  have HV : Hid (showV len c np p (k : Int) = ptxt (c i) m) := showV_t ⟨HRP.out, by omega, by omega⟩ hse hnu
  have HSE : Hid ((p k).ser = (i : Int)) := hse
  have HNU : Hid ((p k).num = (m : Int)) := hnu
  obtain ⟨r, hr2⟩ : ∃ r, c i = r := ⟨_, rfl⟩
  have HX : Hid (c i = r) := hr2
  rw [hr2] at hd1 hd2 hpz HV
  obtain ⟨pr, wd⟩ := r
  simp only at hd1 hd2 hpz
  clear hr2 hse hnu
  obtain ⟨A, hA⟩ : ∃ A, strB (decDigits m) = A := ⟨_, rfl⟩
  have hAs : (A.size : Int) = dg m := by rw [← hA, strB_size]; rfl
  have HA : Hid (strB (decDigits m) = A) := hA
  have HL : Hid ((decDigits m).length = A.size) := hid (by rw [← hA, strB_size])
  clear hA
  have hAz : A.size ≤ 100 := by omega
  have s1 : ¬ 9223372036854775807 < pr.size + 1 := by omega
  go_enter Tryd.func33, Tryd.ntmps33
  go_wp2_with (first
    | (go_at_call 15; go_loud (refine HCF.out.mono ?_; rintro e w1 ⟨rfl, b1⟩; have HB1 : Hid (Below w.heap.size w w1) := bel_on HBA.out b1; have X1 : CB w1 w.heap.size #[.slice (some ⟨kb, off, none⟩) len cap, .slice (some ⟨kp, offp, none⟩) np pcap] 27 := (CB.new _ _).below b1 (by simp); have k0 := (X1.cell 0).trans rfl; have k1 := (X1.cell 1).trans rfl; have hA := (HP.out.below HB1.out).cell hk; unfold AtP4 at hA; rw [HSE.out, HNU.out] at hA; obtain ⟨y0, y1, y2, y3⟩ := hA; have hC := (HR.out.below HB1.out).cell hi; unfold AtS2 at hC; rw [HX.out] at hC; obtain ⟨x0, x1⟩ := hC; have hB1 : Below w1.heap.size w1 w1 := Below.refl _ _; have hB1d : Below w1.heap.size w1 w1.drew := (Below.refl _ _).drew; clear b1 HCF X1 y2 y3))
    | (go_at_call 51; refine (l1In_eq HIN.out).mono ?_; rintro e w2 ⟨rfl, ew⟩; replace ew := ew.symm; subst ew))
  refine wp_region_noPanic ?_
  refine wp_region_held_drew (S := fun w' => w'.cell? ⟨w.heap.size, 0, none⟩ = some (.slice (some ⟨kb, off, none⟩) len cap) ∧ w'.cell? ⟨w.heap.size, 1, none⟩ = some (.slice (some ⟨kp, offp, none⟩) np pcap) ∧ w'.cell? ⟨kp, offp + k * 4, none⟩ = some (.int .i64 (i : Int)) ∧ w'.cell? ⟨kb, off + i * 2, none⟩ = some (.string pr) ∧ w'.cell? ⟨kb, off + i * 2 + 1, none⟩ = some (.int .i64 wd) ∧ Below w1.heap.size w1 w') (by kernel_rfl) ?_ (fun hHeld => ?_)
  · (try dsimp only); refine ⟨?_, ?_, ?_, ?_, ?_, ?_⟩ <;> first | assumption | (simp [*, World.cell?_alloc_some]; done) | exact Below.alloc (by assumption) (by first | exact Nat.le_refl _ | simp) _
  refine wpAnyH_take (i := 0) (oi := { dst := some 19, op := Go.Op.fieldAddr 27 (Go.Operand.tmp 2) 0, type := 0, pos := "l11_papers.go:85", after := #[], guard := none }) (v := ?_) rfl (by kernel_rfl) (by kernel_rfl) (by kernel_rfl) (fun _ _ _ h => h) (Or.inl ⟨by rfl, ?_⟩) (by assumption) ?_
  rotate_left
  · (intro w hSw; (try dsimp only at hSw); go_simp <;> try with_reducible rfl)
  try simp only [Act.put, List.setIfInBounds_toArray, List.set_cons_zero, List.set_cons_succ]
  refine wpAnyH_take (i := 1) (oi := { dst := some 20, op := Go.Op.load 24 (Go.Operand.tmp 19), type := 24, pos := "l11_papers.go:85", after := #[{ on := 0, ground := Go.Ground.data }], guard := none }) (v := ?_) rfl (by kernel_rfl) (by kernel_rfl) (by kernel_rfl) (fun _ _ _ h => h) (Or.inl ⟨by rfl, ?_⟩) (by assumption) ?_
  rotate_left
  · (intro w hSw; (try dsimp only at hSw); go_simp <;> try with_reducible rfl)
  try simp only [Act.put, List.setIfInBounds_toArray, List.set_cons_zero, List.set_cons_succ]
  refine wpAnyH_take (i := 2) (oi := { dst := some 21, op := Go.Op.fieldAddr 27 (Go.Operand.tmp 2) 1, type := 0, pos := "l11_papers.go:85", after := #[], guard := none }) (v := ?_) rfl (by kernel_rfl) (by kernel_rfl) (by kernel_rfl) (fun _ _ _ h => h) (Or.inl ⟨by rfl, ?_⟩) (by assumption) ?_
  rotate_left
  · (intro w hSw; (try dsimp only at hSw); go_simp <;> try with_reducible rfl)
  try simp only [Act.put, List.setIfInBounds_toArray, List.set_cons_zero, List.set_cons_succ]
  refine wpAnyH_take (i := 3) (oi := { dst := some 22, op := Go.Op.load 25 (Go.Operand.tmp 21), type := 25, pos := "l11_papers.go:85", after := #[{ on := 2, ground := Go.Ground.data }], guard := none }) (v := ?_) rfl (by kernel_rfl) (by kernel_rfl) (by kernel_rfl) (fun _ _ _ h => h) (Or.inl ⟨by rfl, ?_⟩) (by assumption) ?_
  rotate_left
  · (intro w hSw; (try dsimp only at hSw); go_simp <;> try with_reducible rfl)
  try simp only [Act.put, List.setIfInBounds_toArray, List.set_cons_zero, List.set_cons_succ]
  refine wpAnyH_take (i := 4) (oi := { dst := some 23, op := Go.Op.move (Go.Operand.tmp 1), type := 3, pos := "l11_papers.go:85", after := #[], guard := none }) (v := ?_) rfl (by kernel_rfl) (by kernel_rfl) (by kernel_rfl) (fun _ _ _ h => h) (Or.inl ⟨by rfl, ?_⟩) (by assumption) ?_
  rotate_left
  · (intro w hSw; (try dsimp only at hSw); go_simp <;> try with_reducible rfl)
  try simp only [Act.put, List.setIfInBounds_toArray, List.set_cons_zero, List.set_cons_succ]
  refine wpAnyH_take (i := 5) (oi := { dst := some 24, op := Go.Op.indexAddr 25 (Go.Operand.tmp 22) (Go.Operand.tmp 23), type := 0, pos := "l11_papers.go:85", after := #[{ on := 3, ground := Go.Ground.data }, { on := 4, ground := Go.Ground.data }], guard := none }) (v := ?_) rfl (by kernel_rfl) (by kernel_rfl) (by kernel_rfl) (fun _ _ _ h => h) (Or.inl ⟨by rfl, ?_⟩) (by assumption) ?_
  rotate_left
  · (intro w hSw; (try dsimp only at hSw); go_simp <;> try with_reducible rfl)
  try simp only [Act.put, List.setIfInBounds_toArray, List.set_cons_zero, List.set_cons_succ]
  refine wpAnyH_take (i := 6) (oi := { dst := some 25, op := Go.Op.fieldAddr 32 (Go.Operand.tmp 24) 0, type := 0, pos := "l11_papers.go:85", after := #[{ on := 5, ground := Go.Ground.data }], guard := none }) (v := ?_) rfl (by kernel_rfl) (by kernel_rfl) (by kernel_rfl) (fun _ _ _ h => h) (Or.inl ⟨by rfl, ?_⟩) (by assumption) ?_
  rotate_left
  · (intro w hSw; (try dsimp only at hSw); go_simp <;> try with_reducible rfl)
  try simp only [Act.put, List.setIfInBounds_toArray, List.set_cons_zero, List.set_cons_succ]
  refine wpAnyH_take (i := 7) (oi := { dst := some 26, op := Go.Op.load 3 (Go.Operand.tmp 25), type := 3, pos := "l11_papers.go:85", after := #[{ on := 6, ground := Go.Ground.data }], guard := none }) (v := ?_) rfl (by kernel_rfl) (by kernel_rfl) (by kernel_rfl) (fun _ _ _ h => h) (Or.inl ⟨by rfl, ?_⟩) (by assumption) ?_
  rotate_left
  · (intro w hSw; (try dsimp only at hSw); go_simp <;> try with_reducible rfl)
  try simp only [Act.put, List.setIfInBounds_toArray, List.set_cons_zero, List.set_cons_succ]
  refine wpAnyH_take (i := 8) (oi := { dst := some 27, op := Go.Op.indexAddr 24 (Go.Operand.tmp 20) (Go.Operand.tmp 26), type := 0, pos := "l11_papers.go:85", after := #[{ on := 1, ground := Go.Ground.data }, { on := 7, ground := Go.Ground.data }], guard := none }) (v := ?_) rfl (by kernel_rfl) (by kernel_rfl) (by kernel_rfl) (fun _ _ _ h => h) (Or.inl ⟨by rfl, ?_⟩) (by assumption) ?_
  rotate_left
  · (intro w hSw; (try dsimp only at hSw); go_simp <;> try with_reducible rfl)
  try simp only [Act.put, List.setIfInBounds_toArray, List.set_cons_zero, List.set_cons_succ]
  refine wpAnyH_take (i := 9) (oi := { dst := some 28, op := Go.Op.load 75 (Go.Operand.tmp 27), type := 75, pos := "l11_papers.go:85", after := #[{ on := 8, ground := Go.Ground.data }], guard := none }) (v := ?_) rfl (by kernel_rfl) (by kernel_rfl) (by kernel_rfl) (fun _ _ _ h => h) (Or.inl ⟨by rfl, ?_⟩) (by assumption) ?_
  rotate_left
  · (intro w hSw; (try dsimp only at hSw); go_simp <;> try with_reducible rfl)
  try simp only [Act.put, List.setIfInBounds_toArray, List.set_cons_zero, List.set_cons_succ]
  refine wpAnyH_ready (rs := [10]) (by kernel_rfl) (by simp) ?_
  refine AllReadyH.cons (o := { dst := some 5, op := Go.Op.alloc 75, type := 0, pos := "l11_papers.go:85", after := #[], guard := none }) rfl (fun K hK => ?_) AllReadyH.nil
  go_simp
  skip
  first | refine hK.out _ _ ?_ (fun hHeld => ?_) | (go_wp2_with fail; refine hK.out _ _ ?_ (fun hHeld => ?_))
  · (try dsimp only); refine ⟨?_, ?_, ?_, ?_, ?_, ?_⟩ <;> first | assumption | (simp [*, World.cell?_alloc_some]; done) | exact Below.alloc (by assumption) (by first | exact Nat.le_refl _ | simp) _
  clear hK K
  try simp only [Act.put, List.setIfInBounds_toArray, List.set_cons_zero, List.set_cons_succ]
  refine wpAnyH_ready (rs := [11]) (by kernel_rfl) (by simp) ?_
  refine AllReadyH.cons (o := { dst := none, op := Go.Op.store 75 (Go.Operand.tmp 5) (Go.Operand.tmp 28), type := 0, pos := "l11_papers.go:85", after := #[{ on := 10, ground := Go.Ground.data }, { on := 9, ground := Go.Ground.data }, { on := 0, ground := Go.Ground.phase }, { on := 1, ground := Go.Ground.phase }, { on := 2, ground := Go.Ground.phase }, { on := 3, ground := Go.Ground.phase }, { on := 4, ground := Go.Ground.phase }, { on := 5, ground := Go.Ground.phase }, { on := 6, ground := Go.Ground.phase }, { on := 7, ground := Go.Ground.phase }, { on := 8, ground := Go.Ground.phase }, { on := 9, ground := Go.Ground.phase }, { on := 10, ground := Go.Ground.phase }], guard := none }) rfl (fun K hK => ?_) AllReadyH.nil
  go_simp
  skip
  first | refine hK.out _ _ ?_ (fun hHeld => ?_) | (go_wp2_with fail; refine hK.out _ _ ?_ (fun hHeld => ?_))
  · (try dsimp only); refine ⟨?_, ?_, ?_, ?_, ?_, ?_⟩ <;> first | assumption | (simp [*, World.cell?_alloc_some]; done) | exact Below.alloc (by assumption) (by first | exact Nat.le_refl _ | simp) _
  clear hK K
  try simp only [Act.put, List.setIfInBounds_toArray, List.set_cons_zero, List.set_cons_succ]
  refine wpAnyH_done (by kernel_rfl) ?_ _
  refine NoPanic.normal ?_
  have hBx : Below w1.heap.size w1 ((w1.alloc (.cells #[.string pr, .int .i64 wd] 75 (0, 0))).drew) := ((Below.refl _ _).alloc (Nat.le_refl _) _).drew
  have z1 : ((w1.alloc (.cells #[.string pr, .int .i64 wd] 75 (0, 0))).drew).cell? ⟨w.heap.size, 1, none⟩ = some (.slice (some ⟨kp, offp, none⟩) np pcap) := keep_cell hBx k1
  have z2 := keep_cell hBx y1
  have XS : CB ((w1.alloc (.cells #[.string pr, .int .i64 wd] 75 (0, 0))).drew) w1.heap.size #[.string pr, .int .i64 wd] 75 := CB.newAt rfl _ _
  have v0 : ((w1.alloc (.cells #[.string pr, .int .i64 wd] 75 (0, 0))).drew).cell? ⟨w1.heap.size, 0, none⟩ = some (.string pr) := (XS.cell 0).trans rfl
  have v1 : ((w1.alloc (.cells #[.string pr, .int .i64 wd] 75 (0, 0))).drew).cell? ⟨w1.heap.size, 1, none⟩ = some (.int .i64 wd) := (XS.cell 1).trans rfl
  have HBD : Hid (Below w.heap.size w ((w1.alloc (.cells #[.string pr, .int .i64 wd] 75 (0, 0))).drew)) := bel_on HB1.out hBx
  clear hBx XS hHeld
  generalize ((w1.alloc (.cells #[.string pr, .int .i64 wd] 75 (0, 0))).drew) = wv at z1 z2 v0 v1 HBD ⊢
  go_wp2_with (go_at_call 52; refine (text_at (m := m) rfl (by omega)).mono ?_; rintro e w3 ⟨rfl, q0, rfl⟩; rw [HA.out])
  have u0 : (wv.drewN q0).cell? ⟨w1.heap.size, 0, none⟩ = some (.string pr) := v0
  have u1 : (wv.drewN q0).cell? ⟨w1.heap.size, 1, none⟩ = some (.int .i64 wd) := v1
  have HBE : Hid (Below w.heap.size w (wv.drewN q0)) := bd_N HBD.out _
  clear z1 z2 v0 v1 HBD k0 k1 y0 y1 x0 x1 hB1 hB1d HB1
  generalize (wv.drewN q0) = wz at u0 u1 HBE ⊢
  go_loop [6] (fun u => ∃ (j : Nat) (T : ByteArray), u = .string T ∧ Hid (T = zT j ++ A) ∧ Hid (T.size = j + A.size) ∧ (T.size : Int) ≤ wd) (fun u => wd.toNat - szOf u)
  case atStart => exact ⟨0, A, rfl, hid (by apply ByteArray.ext; simp [zT, strB]), hid (by omega), by omega⟩
  case round =>
    obtain ⟨j, T, rfl, HZ, HTS, hle⟩ := hrel
    have hTs : T.size ≤ 100 := by omega
    by_cases hlt : (T.size : Int) < wd
    · have s2 : ¬ 9223372036854775807 < 1 + T.size := by omega
      go_wp2
      go_round
      case rel => exact ⟨j + 1, _, rfl, hid (by rw [HZ.out]; exact zT_next j A), hid (by have := HTS.out; rw [ByteArray.size_append]; show 1 + T.size = _; omega), by rw [ByteArray.size_append]; show ((1 + T.size : Nat) : Int) ≤ wd; omega⟩
      case measure =>
        have e : ((⟨#[48]⟩ : ByteArray) ++ T).size = 1 + T.size := by rw [ByteArray.size_append]; rfl
        show wd.toNat - ((⟨#[48]⟩ : ByteArray) ++ T).size < wd.toNat - T.size
        rw [e]; omega
    · have s3 : ¬ 9223372036854775807 < pr.size + 1 + T.size := by omega
      have HF : Hid ((pr ++ ⟨#[45]⟩) ++ T = ptxt ⟨pr, wd⟩ m) := hid (by
        have e1 := HTS.out
        have e2 : wd.toNat - (decDigits m).length = j := by rw [HL.out]; omega
        rw [HZ.out]
        unfold ptxt
        dsimp only
        rw [e2, HA.out, ba_assoc])
      go_wp2
      go_returns
      exact ⟨ret_str (by rw [HV.out]; exact HF.out), HBE.out⟩
end Go.Proofs.YtdhpadcihlmhiaaDoor
