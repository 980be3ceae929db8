/- A register opened, in the program: behind all its papers, if it is right. -/
import Derived.Test.YtdhpadcihlmhiaaDoorSg
namespace Go.Proofs.YtdhpadcihlmhiaaDoor
open Go.ChangeShapes Go.WideShapes Go.ChangeAt Go.RowKit
open Go.Lib (decDigits)
set_option linter.unusedVariables false
set_option linter.unusedSimpArgs false

theorem refusal_eq (b mb : Nat) (sa : Option Addr) (ns cap k : Nat) (c : Nat → S2) (p : Nat → P4) (s day v : Int) (w : World) (H : NowAt w b mb sa ns cap k p) (hr : SRw w sa ns c) (hk : (k : Int) ≤ 400) (hns : (ns : Int) ≤ 1048576) (hwf : (Lit.int .i64 s).wf = true) (hT : TP w) (hv : refV ns c k p s day = v) :
    Calls Tryd.prog 55 #[.pointer (some ⟨b, 0, none⟩), .int .i64 s, .int .i64 day] w fun e w' => e = .returned (.int .i64 v) ∧ Below w.heap.size w w' := hv ▸ refusal_any b mb sa ns cap k c p s day w H hr hk hns hwf hT
theorem next_at {V : Value} {n : Nat} {d : Int} (hV : V = endV n d) (w : World) (h : (n : Int) ≤ 1000) : Calls Tryd.prog 100 #[V] w fun e w' => e = .returned (.int .i64 ((n : Int) + 1)) ∧ Below w.heap.size w w' := hV ▸ next_any n d w h
theorem okp_step {ns : Nat} {c : Nat → S2} {p : Nat → P4} {k : Nat} (h : ∀ j, j < k → okP ns c p j) (g : okP ns c p k) : ∀ j, j < k + 1 → okP ns c p j := fun j hj => by
  by_cases e : j = k
  · subst e; exact g
  · exact h j (by omega)
/-- What a register opened tells. -/
def OpP (ad : Option Addr) (len cap : Nat) (c : Nat → S2) (np : Nat) (p : Nat → P4) (w : World) (e : Ending) (w' : World) : Prop :=
  ∃ b mb, e = .returned (.tuple #[.pointer (some ⟨b, 0, none⟩), .bool (regB len c np p)]) ∧ (RegP len c np p → NowAt w' b mb ad len cap np p ∧ w.heap.size ≤ b ∧ w.heap.size ≤ mb) ∧ Below w.heap.size w w'
theorem opF {ad : Option Addr} {len cap : Nat} {c : Nat → S2} {np : Nat} {p : Nat → P4} {w w' : World} (b : Nat) (h : regB len c np p = false) (g : Below w.heap.size w w') : OpP ad len cap c np p w (.returned (.tuple #[.pointer (some ⟨b, 0, none⟩), .bool false])) w' :=
  ⟨b, 0, by rw [h], (fun H => by rw [regB_t H] at h; cases h), g⟩
theorem opT {ad : Option Addr} {len cap : Nat} {c : Nat → S2} {np : Nat} {p : Nat → P4} {w w' : World} {b mb : Nat} (h : RegP len c np p) (hn : NowAt w' b mb ad len cap np p) (h1 : w.heap.size ≤ b) (h2 : w.heap.size ≤ mb) (g : Below w.heap.size w w') : OpP ad len cap c np p w (.returned (.tuple #[.pointer (some ⟨b, 0, none⟩), .bool true])) w' :=
  ⟨b, mb, by rw [regB_t h], (fun _ => ⟨hn, h1, h2⟩), g⟩
def mapO : Obj := .map #[] 0

set_option maxRecDepth 20000 in
set_option maxHeartbeats 8000000 in
theorem open_any (ad : Option Addr) (len cap : Nat) (c : Nat → S2) (ap : Option Addr) (np pcap : Nat) (p : Nat → P4) (w : World) (h : (len : Int) ≤ 1048576) (hcap : len ≤ cap) (hs : ∀ j, (c j).pre.size ≤ maxLen) (hr : SRw w ad len c) (hn : (np : Int) ≤ 1048576) (hp : PRw w ap np p) (hw : ∀ j, (Lit.int .i64 (p j).ser).wf = true) (hT : TP w) :
    Calls Tryd.prog 54 #[.agg #[.slice ad len cap, .slice ap np pcap]] w (OpP ad len cap c np p w) := by
  have HR : Hid (SRw w ad len c) := hr
  have HP : Hid (PRw w ap np p) := hp
  have HS : Hid (∀ j, (c j).pre.size ≤ maxLen) := hs
  have HW : Hid (∀ j, (Lit.int .i64 (p j).ser).wf = true) := hw
  have HT : Hid (TP w) := hT
  have HB0 : Hid (Below w.heap.size w (((w.alloc (.cells #[.slice ad len cap, .slice ap np pcap] 27 (0, 0))).alloc (.map #[] 0)).alloc (.cells #[.slice ad len cap, .int .i64 0, .map (some (w.heap.size + 1))] 134 (0, 0)))) := (((Below.refl _ _).alloc (Nat.le_refl _) _).alloc (by simp) _).alloc (by simp; omega) _
  have HN0 : Hid (NowAt (((w.alloc (.cells #[.slice ad len cap, .slice ap np pcap] 27 (0, 0))).alloc (.map #[] 0)).alloc (.cells #[.slice ad len cap, .int .i64 0, .map (some (w.heap.size + 1))] 134 (0, 0))) (w.heap.size + 1 + 1) (w.heap.size + 1) ad len cap 0 p) :=
    ⟨CB.newAt (by simp) _ _, by have := MP.made Tryd.prog 3 z2 (w.alloc (.cells #[.slice ad len cap, .slice ap np pcap] 27 (0, 0))); simp only [World.size_alloc] at this; exact this.block (((Below.refl _ _).alloc (Nat.le_refl _) _).block _ this.lt), by omega⟩
  have HC0 : Hid (CB (((w.alloc (.cells #[.slice ad len cap, .slice ap np pcap] 27 (0, 0))).alloc (.map #[] 0)).alloc (.cells #[.slice ad len cap, .int .i64 0, .map (some (w.heap.size + 1))] 134 (0, 0))) w.heap.size #[.slice ad len cap, .slice ap np pcap] 27) := ((CB.new _ _).alloc _).alloc _
  have hmm := @run_makeMap Tryd.prog
  clear hr hp hs hw hT
  cases hb : serB len c
  · have HV : Hid (serB len c = false) := hb
    have HF : Hid (regB len c np p = false) := regB_f fun H => by rw [serB_t H.1] at hb; cases hb
    clear hb
    go_enter Tryd.func54, Tryd.ntmps54
    go_wp2_with (go_at_call 99; go_loud (refine (areSeries_any _ _ _ c _ _ h hcap HS.out (HR.out.below HB0.out) HV.out).mono ?_; rintro e w1 ⟨rfl, b1⟩; have HB1 : Hid (Below w.heap.size w w1) := bel_on HB0.out b1; clear b1))
    go_returns
    exact opF _ HF.out HB1.out
  have HV : Hid (serB len c = true) := hb
  have HSP : Hid (SerP len c) := serB_of hb
  clear hb
  go_enter Tryd.func54, Tryd.ntmps54
  go_wp2_with (go_at_call 99; go_loud (refine (areSeries_any _ _ _ c _ _ h hcap HS.out (HR.out.below HB0.out) HV.out).mono ?_; rintro e w1 ⟨rfl, b1⟩; have HB1 : Hid (Below w.heap.size w w1) := bel_on HB0.out b1; have HN1 := hid (HN0.out.below b1); have k1 : w1.cell? ⟨w.heap.size, 1, none⟩ = some (.slice ap np pcap) := ((HC0.out.below b1 HC0.out.lt).cell 1).trans rfl; clear b1))
  clear hmm
  go_loopw [20] (fun i wr => ∃ (k : Nat), k ≤ np ∧ i = .int .i64 (k : Int) ∧ Hid ((∀ j, j < k → okP len c p j) ∧ NowAt wr (w.heap.size + 1 + 1) (w.heap.size + 1) ad len cap k p ∧ Below w.heap.size w wr)) (fun i _ => np - (intOf i).toNat)
  case atStart => exact ⟨0, Nat.zero_le _, rfl, fun j hj => by omega, HN1.out, HB1.out⟩
  case round =>
    obtain ⟨k, hk, rfl, HH⟩ := hrel
    obtain ⟨wo, rfl⟩ : ∃ x, x = wr := ⟨wr, rfl⟩
    by_cases hlt : k < np
    · have hlt2 : (k : Int) < (np : Int) := by omega
      have hk4 : (k : Int) ≤ 400 := by
        have := (show RegP len c k p from ⟨HSP.out, HH.out.1⟩).few
        omega
      have HB : Hid (Below w.heap.size w wo) := HH.out.2.2
      have HN : Hid (NowAt wo (w.heap.size + 1 + 1) (w.heap.size + 1) ad len cap k p) := HH.out.2.1
      obtain ⟨kb, off, rfl, hkb⟩ := HP.out.addr (by omega)
      obtain ⟨c0, c1, c2, c3⟩ := (HP.out.below HB.out).cell hlt
      have n2 : wo.cell? ⟨w.heap.size + 1 + 1, 2, none⟩ = some (.map (some (w.heap.size + 1))) := (HN.out.blk.cell 2).trans rfl
      have hwf := HW.out k
      obtain ⟨r, hr⟩ : ∃ r, p k = r := ⟨_, rfl⟩
      have HX : Hid (p k = r) := hr
      rw [hr] at c0 c1 c2 c3 hwf
      obtain ⟨ps, pn, pd, pv⟩ := r
      simp only at c0 c1 c2 c3 hwf
      clear hr
      have hcn : (cntP p ps k : Int) ≤ 1000 := by have := cntP_le p ps k; omega
      have hB0 : Below wo.heap.size wo (wo.alloc (.cells #[.int .i64 ps, .int .i64 pn, .int .i64 pd, .bool pv] 32 (0, 0))) := (Below.refl _ _).alloc (Nat.le_refl _) _
      have hB1 : Below wo.heap.size wo (wo.alloc (.cells #[.int .i64 ps, .int .i64 pn, .int .i64 pd, .bool pv] 32 (0, 0))).drew := hB0.drew
      obtain ⟨rv, hrv⟩ : ∃ x, refV len c k p ps pd = x := ⟨_, rfl⟩
      have HRV : Hid (refV len c k p ps pd = rv) := hrv
      clear hrv
      by_cases hz : rv = 0
      · subst hz
        have HEV : Hid ((fun s => endV (cntP p s k) (lstP p s k)) ps = endV (cntP p ps k) (lstP p ps k)) := rfl
        obtain ⟨cn, hcn0⟩ : ∃ x, cntP p ps k = x := ⟨_, rfl⟩
        have HCN : Hid (cntP p ps k = cn) := hcn0
        rw [hcn0] at hcn
        replace HEV : Hid ((fun s => endV (cntP p s k) (lstP p s k)) ps = endV cn (lstP p ps k)) := by have := HEV.out; rw [hcn0] at this; exact this
        clear hcn0
        by_cases hnn : pn = (cn : Int) + 1
        · have HG : Hid (∀ j, j < k + 1 → okP len c p j) := okp_step HH.out.1 (by unfold okP; rw [HX.out]; exact ⟨HRV.out, by (try dsimp only); rw [HCN.out]; exact hnn⟩)
          have hne : (pn == (cn : Int) + 1) = true := eq_t hnn
          clear hnn
          go_wp2
          refine wp_region_noPanic ?_
          refine wp_region_held_drew (S := fun w' => w'.cell? ⟨wo.heap.size, 0, none⟩ = some (.int .i64 ps) ∧ w'.cell? ⟨wo.heap.size, 1, none⟩ = some (.int .i64 pn) ∧ w'.cell? ⟨wo.heap.size, 2, none⟩ = some (.int .i64 pd) ∧ w'.cell? ⟨wo.heap.size, 3, none⟩ = some (.bool pv) ∧ w'.cell? ⟨w.heap.size + 1 + 1, 2, none⟩ = some (.map (some (w.heap.size + 1))) ∧ Below wo.heap.size wo w') (by kernel_rfl) ?_ (fun hHeld => ?_)
          · (try dsimp only); refine ⟨?_, ?_, ?_, ?_, ?_, ?_⟩ <;> first | assumption | (simp [*, World.cell?_alloc_some]; done)
          refine wpAnyH_take (i := 0) (oi := { dst := some 24, op := Go.Op.move (Go.Operand.tmp 4), type := 79, pos := "l11_papers.go:144", after := #[], guard := none }) (v := ?_) rfl (by kernel_rfl) (by kernel_rfl) (by kernel_rfl) (fun _ _ _ h => h) (Or.inl ⟨by rfl, ?_⟩) (by assumption) ?_
          rotate_left
          · (intro w hSw; (try dsimp only at hSw); go_simp <;> try with_reducible rfl)
          try simp only [Act.put, List.setIfInBounds_toArray, List.set_cons_zero, List.set_cons_succ]
          refine wpAnyH_take (i := 1) (oi := { dst := some 25, op := Go.Op.fieldAddr 32 (Go.Operand.tmp 6) 0, type := 0, pos := "l11_papers.go:144", after := #[], guard := none }) (v := ?_) rfl (by kernel_rfl) (by kernel_rfl) (by kernel_rfl) (fun _ _ _ h => h) (Or.inl ⟨by rfl, ?_⟩) (by assumption) ?_
          rotate_left
          · (intro w hSw; (try dsimp only at hSw); go_simp <;> try with_reducible rfl)
          try simp only [Act.put, List.setIfInBounds_toArray, List.set_cons_zero, List.set_cons_succ]
          refine wpAnyH_take (i := 2) (oi := { dst := some 26, op := Go.Op.load 3 (Go.Operand.tmp 25), type := 3, pos := "l11_papers.go:144", after := #[{ on := 1, ground := Go.Ground.data }], guard := none }) (v := ?_) rfl (by kernel_rfl) (by kernel_rfl) (by kernel_rfl) (fun _ _ _ h => h) (Or.inl ⟨by rfl, ?_⟩) (by assumption) ?_
          rotate_left
          · (intro w hSw; (try dsimp only at hSw); go_simp <;> try with_reducible rfl)
          try simp only [Act.put, List.setIfInBounds_toArray, List.set_cons_zero, List.set_cons_succ]
          refine wpAnyH_take (i := 3) (oi := { dst := some 27, op := Go.Op.fieldAddr 32 (Go.Operand.tmp 6) 2, type := 0, pos := "l11_papers.go:144", after := #[], guard := none }) (v := ?_) rfl (by kernel_rfl) (by kernel_rfl) (by kernel_rfl) (fun _ _ _ h => h) (Or.inl ⟨by rfl, ?_⟩) (by assumption) ?_
          rotate_left
          · (intro w hSw; (try dsimp only at hSw); go_simp <;> try with_reducible rfl)
          try simp only [Act.put, List.setIfInBounds_toArray, List.set_cons_zero, List.set_cons_succ]
          refine wpAnyH_take (i := 4) (oi := { dst := some 28, op := Go.Op.load 3 (Go.Operand.tmp 27), type := 3, pos := "l11_papers.go:144", after := #[{ on := 3, ground := Go.Ground.data }], guard := none }) (v := ?_) rfl (by kernel_rfl) (by kernel_rfl) (by kernel_rfl) (fun _ _ _ h => h) (Or.inl ⟨by rfl, ?_⟩) (by assumption) ?_
          rotate_left
          · (intro w hSw; (try dsimp only at hSw); go_simp <;> try with_reducible rfl)
          try simp only [Act.put, List.setIfInBounds_toArray, List.set_cons_zero, List.set_cons_succ]
          refine wpAnyH_ready (rs := [5]) (by kernel_rfl) (by simp) ?_
          refine AllReadyH.cons (o := { dst := some 29, op := Go.Op.call { callee := Go.Callee.value (Go.Operand.func 55), args := #[Go.Operand.tmp 24, Go.Operand.tmp 26, Go.Operand.tmp 28], argTypes := #[79, 3, 3] }, type := 3, pos := "l11_papers.go:144", after := #[{ on := 0, ground := Go.Ground.data }, { on := 2, ground := Go.Ground.data }, { on := 4, ground := Go.Ground.data }], guard := none }) rfl (fun K hK => ?_) AllReadyH.nil
          go_simp
          (go_at_call 55; refine (refusal_eq _ _ _ _ _ k c p ps pd _ _ (HN.out.below (by assumption)) (HR.out.below (bel_on HB.out (by assumption))) hk4 h hwf (HT.out.below (bel_on HB.out (by assumption))) HRV.out).mono ?_; rintro e w2 ⟨rfl, b2⟩; have q1_0 : w2.cell? ⟨wo.heap.size, 0, none⟩ = some (.int .i64 ps) := keep_cell b2 (by simp [*]); have q1_1 : w2.cell? ⟨wo.heap.size, 1, none⟩ = some (.int .i64 pn) := keep_cell b2 (by simp [*]); have q1_2 : w2.cell? ⟨wo.heap.size, 2, none⟩ = some (.int .i64 pd) := keep_cell b2 (by simp [*]); have q1_3 : w2.cell? ⟨wo.heap.size, 3, none⟩ = some (.bool pv) := keep_cell b2 (by simp [*]); have q1_4 : w2.cell? ⟨w.heap.size + 1 + 1, 2, none⟩ = some (.map (some (w.heap.size + 1))) := keep_cell b2 (by simp [*]); have p1 : Below wo.heap.size wo w2 := bel_on (by assumption) b2; clear b2)
          first | refine hK.out _ _ ?_ (fun hHeld => ?_) | (go_wp2_with fail; refine hK.out _ _ ?_ (fun hHeld => ?_))
          · (try dsimp only); refine ⟨?_, ?_, ?_, ?_, ?_, ?_⟩ <;> first | assumption | (simp [*, World.cell?_alloc_some]; done)
          clear hK K
          try simp only [Act.put, List.setIfInBounds_toArray, List.set_cons_zero, List.set_cons_succ]
          refine wpAnyH_take (i := 6) (oi := { dst := some 30, op := Go.Op.binOp Go.BinOp.neq 3 (Go.Operand.tmp 29) (Go.Operand.const (Go.Value.int Go.IntKind.i64 0)) 3, type := 4, pos := "l11_papers.go:144", after := #[{ on := 5, ground := Go.Ground.data }], guard := none }) (v := ?_) rfl (by kernel_rfl) (by kernel_rfl) (by kernel_rfl) (fun _ _ _ h => h) (Or.inl ⟨by rfl, ?_⟩) (by assumption) ?_
          rotate_left
          · (intro w hSw; (try dsimp only at hSw); go_simp <;> try with_reducible rfl)
          try simp only [Act.put, List.setIfInBounds_toArray, List.set_cons_zero, List.set_cons_succ]
          refine wpAnyH_take (i := 7) (oi := { dst := some 31, op := Go.Op.move (Go.Operand.tmp 30), type := 4, pos := "l11_papers.go:144", after := #[{ on := 6, ground := Go.Ground.data }, { on := 5, ground := Go.Ground.chain }], guard := none }) (v := ?_) rfl (by kernel_rfl) (by kernel_rfl) (by kernel_rfl) (fun _ _ _ h => h) (Or.inl ⟨by rfl, ?_⟩) (by assumption) ?_
          rotate_left
          · (intro w hSw; (try dsimp only at hSw); go_simp <;> try with_reducible rfl)
          try simp only [Act.put, List.setIfInBounds_toArray, List.set_cons_zero, List.set_cons_succ]
          refine wpAnyH_take (i := 8) (oi := { dst := some 32, op := Go.Op.fieldAddr 32 (Go.Operand.tmp 6) 1, type := 0, pos := "l11_papers.go:144", after := #[{ on := 7, ground := Go.Ground.guard }], guard := some (7, false) }) (v := ?_) rfl (by kernel_rfl) (by kernel_rfl) (by kernel_rfl) (fun _ _ _ h => h) (Or.inl ⟨by rfl, ?_⟩) (by assumption) ?_
          rotate_left
          · (intro w hSw; (try dsimp only at hSw); go_simp <;> try with_reducible rfl)
          try simp only [Act.put, List.setIfInBounds_toArray, List.set_cons_zero, List.set_cons_succ]
          refine wpAnyH_take (i := 9) (oi := { dst := some 33, op := Go.Op.load 3 (Go.Operand.tmp 32), type := 3, pos := "l11_papers.go:144", after := #[{ on := 8, ground := Go.Ground.data }, { on := 7, ground := Go.Ground.guard }], guard := some (7, false) }) (v := ?_) rfl (by kernel_rfl) (by kernel_rfl) (by kernel_rfl) (fun _ _ _ h => h) (Or.inl ⟨by rfl, ?_⟩) (by assumption) ?_
          rotate_left
          · (intro w hSw; (try dsimp only at hSw); go_simp <;> try with_reducible rfl)
          try simp only [Act.put, List.setIfInBounds_toArray, List.set_cons_zero, List.set_cons_succ]
          refine wpAnyH_take (i := 10) (oi := { dst := some 34, op := Go.Op.move (Go.Operand.tmp 4), type := 79, pos := "l11_papers.go:144", after := #[{ on := 7, ground := Go.Ground.guard }], guard := some (7, false) }) (v := ?_) rfl (by kernel_rfl) (by kernel_rfl) (by kernel_rfl) (fun _ _ _ h => h) (Or.inl ⟨by rfl, ?_⟩) (by assumption) ?_
          rotate_left
          · (intro w hSw; (try dsimp only at hSw); go_simp <;> try with_reducible rfl)
          try simp only [Act.put, List.setIfInBounds_toArray, List.set_cons_zero, List.set_cons_succ]
          refine wpAnyH_take (i := 11) (oi := { dst := some 35, op := Go.Op.nilCheck (Go.Operand.tmp 34), type := 0, pos := "l11_papers.go:144", after := #[{ on := 10, ground := Go.Ground.data }, { on := 7, ground := Go.Ground.guard }], guard := some (7, false) }) (v := ?_) rfl (by kernel_rfl) (by kernel_rfl) (by kernel_rfl) (fun _ _ _ h => h) (Or.inl ⟨by rfl, ?_⟩) (by assumption) ?_
          rotate_left
          · (intro w hSw; (try dsimp only at hSw); go_simp <;> try with_reducible rfl)
          try simp only [Act.put, List.setIfInBounds_toArray, List.set_cons_zero, List.set_cons_succ]
          refine wpAnyH_take (i := 12) (oi := { dst := some 36, op := Go.Op.fieldAddr 134 (Go.Operand.tmp 35) 2, type := 0, pos := "l11_papers.go:144", after := #[{ on := 11, ground := Go.Ground.data }, { on := 7, ground := Go.Ground.guard }], guard := some (7, false) }) (v := ?_) rfl (by kernel_rfl) (by kernel_rfl) (by kernel_rfl) (fun _ _ _ h => h) (Or.inl ⟨by rfl, ?_⟩) (by assumption) ?_
          rotate_left
          · (intro w hSw; (try dsimp only at hSw); go_simp <;> try with_reducible rfl)
          try simp only [Act.put, List.setIfInBounds_toArray, List.set_cons_zero, List.set_cons_succ]
          refine wpAnyH_take (i := 13) (oi := { dst := some 37, op := Go.Op.load 132 (Go.Operand.tmp 36), type := 132, pos := "l11_papers.go:144", after := #[{ on := 12, ground := Go.Ground.data }, { on := 7, ground := Go.Ground.guard }], guard := some (7, false) }) (v := ?_) rfl (by kernel_rfl) (by kernel_rfl) (by kernel_rfl) (fun _ _ _ h => h) (Or.inl ⟨by rfl, ?_⟩) (by assumption) ?_
          rotate_left
          · (intro w hSw; (try dsimp only at hSw); go_simp <;> try with_reducible rfl)
          try simp only [Act.put, List.setIfInBounds_toArray, List.set_cons_zero, List.set_cons_succ]
          refine wpAnyH_take (i := 14) (oi := { dst := some 38, op := Go.Op.fieldAddr 32 (Go.Operand.tmp 6) 0, type := 0, pos := "l11_papers.go:144", after := #[{ on := 7, ground := Go.Ground.guard }], guard := some (7, false) }) (v := ?_) rfl (by kernel_rfl) (by kernel_rfl) (by kernel_rfl) (fun _ _ _ h => h) (Or.inl ⟨by rfl, ?_⟩) (by assumption) ?_
          rotate_left
          · (intro w hSw; (try dsimp only at hSw); go_simp <;> try with_reducible rfl)
          try simp only [Act.put, List.setIfInBounds_toArray, List.set_cons_zero, List.set_cons_succ]
          refine wpAnyH_take (i := 15) (oi := { dst := some 39, op := Go.Op.load 3 (Go.Operand.tmp 38), type := 3, pos := "l11_papers.go:144", after := #[{ on := 14, ground := Go.Ground.data }, { on := 7, ground := Go.Ground.guard }], guard := some (7, false) }) (v := ?_) rfl (by kernel_rfl) (by kernel_rfl) (by kernel_rfl) (fun _ _ _ h => h) (Or.inl ⟨by rfl, ?_⟩) (by assumption) ?_
          rotate_left
          · (intro w hSw; (try dsimp only at hSw); go_simp <;> try with_reducible rfl)
          try simp only [Act.put, List.setIfInBounds_toArray, List.set_cons_zero, List.set_cons_succ]
          refine wpAnyH_ready (rs := [16]) (by kernel_rfl) (by simp) ?_
          refine AllReadyH.cons (o := { dst := some 40, op := Go.Op.lookup 132 (Go.Operand.tmp 37) (Go.Operand.tmp 39) false, type := 137, pos := "l11_papers.go:144", after := #[{ on := 13, ground := Go.Ground.data }, { on := 15, ground := Go.Ground.data }, { on := 7, ground := Go.Ground.guard }], guard := some (7, false) }) rfl (fun K hK => ?_) AllReadyH.nil
          rw [if_pos (by rfl)]
          (refine oper_lookup (Operand.tmp 37) (Operand.tmp 39) 132 rfl 3 137 key3 Tryd.underlying3 Tryd.underlying132 z2 (zeroEnd _) (w.heap.size + 1) k (fun s => endV (cntP p s k) (lstP p s k)) rfl (HN.out.below (by assumption)).map ps rfl hwf ?_)
          first | refine hK.out _ _ ?_ (fun hHeld => ?_) | (go_wp2_with fail; refine hK.out _ _ ?_ (fun hHeld => ?_))
          · (try dsimp only); refine ⟨?_, ?_, ?_, ?_, ?_, ?_⟩ <;> first | assumption | (simp [*, World.cell?_alloc_some]; done)
          clear hK K
          try simp only [Act.put, List.setIfInBounds_toArray, List.set_cons_zero, List.set_cons_succ]
          refine wpAnyH_ready (rs := [17]) (by kernel_rfl) (by simp) ?_
          refine AllReadyH.cons (o := { dst := some 41, op := Go.Op.call { callee := Go.Callee.value (Go.Operand.func 100), args := #[Go.Operand.tmp 40], argTypes := #[137] }, type := 3, pos := "l11_papers.go:144", after := #[{ on := 16, ground := Go.Ground.data }, { on := 7, ground := Go.Ground.chain }, { on := 7, ground := Go.Ground.guard }], guard := some (7, false) }) rfl (fun K hK => ?_) AllReadyH.nil
          go_simp
          (go_at_call 100; refine (next_at HEV.out _ hcn).mono ?_; rintro e w3 ⟨rfl, b3⟩; have q2_0 : w3.cell? ⟨wo.heap.size, 0, none⟩ = some (.int .i64 ps) := keep_cell b3 (by simp [*]); have q2_1 : w3.cell? ⟨wo.heap.size, 1, none⟩ = some (.int .i64 pn) := keep_cell b3 (by simp [*]); have q2_2 : w3.cell? ⟨wo.heap.size, 2, none⟩ = some (.int .i64 pd) := keep_cell b3 (by simp [*]); have q2_3 : w3.cell? ⟨wo.heap.size, 3, none⟩ = some (.bool pv) := keep_cell b3 (by simp [*]); have q2_4 : w3.cell? ⟨w.heap.size + 1 + 1, 2, none⟩ = some (.map (some (w.heap.size + 1))) := keep_cell b3 (by simp [*]); have p2 : Below wo.heap.size wo w3 := bel_on (by assumption) b3; clear b3)
          first | refine hK.out _ _ ?_ (fun hHeld => ?_) | (go_wp2_with fail; refine hK.out _ _ ?_ (fun hHeld => ?_))
          · (try dsimp only); refine ⟨?_, ?_, ?_, ?_, ?_, ?_⟩ <;> first | assumption | (simp [*, World.cell?_alloc_some]; done)
          clear hK K
          try simp only [Act.put, List.setIfInBounds_toArray, List.set_cons_zero, List.set_cons_succ]
          refine wpAnyH_take (i := 18) (oi := { dst := some 42, op := Go.Op.binOp Go.BinOp.neq 3 (Go.Operand.tmp 33) (Go.Operand.tmp 41) 3, type := 4, pos := "l11_papers.go:144", after := #[{ on := 9, ground := Go.Ground.data }, { on := 17, ground := Go.Ground.data }, { on := 7, ground := Go.Ground.guard }], guard := some (7, false) }) (v := ?_) rfl (by kernel_rfl) (by kernel_rfl) (by kernel_rfl) (fun _ _ _ h => h) (Or.inl ⟨by rfl, ?_⟩) (by assumption) ?_
          rotate_left
          · (intro w hSw; (try dsimp only at hSw); go_simp <;> try with_reducible rfl)
          try simp only [Act.put, List.setIfInBounds_toArray, List.set_cons_zero, List.set_cons_succ]
          refine wpAnyH_take (i := 19) (oi := { dst := some 43, op := Go.Op.pick (Go.Operand.tmp 31) (Go.Operand.const (Go.Value.bool true)) (Go.Operand.tmp 42), type := 4, pos := "l11_papers.go:144", after := #[{ on := 7, ground := Go.Ground.data }, { on := 18, ground := Go.Ground.data }], guard := none }) (v := ?_) rfl (by kernel_rfl) (by kernel_rfl) (by kernel_rfl) (fun _ _ _ h => h) (Or.inl ⟨by rfl, ?_⟩) (by assumption) ?_
          rotate_left
          · (intro w hSw; (try dsimp only at hSw); go_simp <;> try with_reducible rfl)
          try simp only [Act.put, List.setIfInBounds_toArray, List.set_cons_zero, List.set_cons_succ]
          refine wpAnyH_done (by kernel_rfl) ?_ _
          refine NoPanic.normal ?_
          go_wp2_with (go_at_call 57; go_loud (refine (issue_any w.heap.size _ _ _ _ _ k p p ps pd _ (HN.out.below (by assumption)) hk4 hwf (by omega) (by omega) (fun _ _ => rfl) (by rw [HX.out]) (by rw [HX.out])).mono ?_; rintro e w5 ⟨rfl, i5, b5⟩; have HN5 := hid i5; have HB5 : Hid (Below w.heap.size w w5) := (bel_on HB.out (by assumption : Below wo.heap.size wo w3)).trans b5; clear i5 b5))
          go_roundw
          case rel => exact ⟨k + 1, by omega, by go_num, HG.out, HN5.out, HB5.out⟩
          case measure => simp [intOf]; omega
        · have HF : Hid (regB len c np p = false) := regB_bad hlt fun G => by have := G.2; rw [HX.out] at this; (try dsimp only at this); rw [HCN.out] at this; exact hnn this
          have hne : (pn == (cn : Int) + 1) = false := eq_f hnn
          clear hnn
          go_wp2
          refine wp_region_noPanic ?_
          refine wp_region_held_drew (S := fun w' => w'.cell? ⟨wo.heap.size, 0, none⟩ = some (.int .i64 ps) ∧ w'.cell? ⟨wo.heap.size, 1, none⟩ = some (.int .i64 pn) ∧ w'.cell? ⟨wo.heap.size, 2, none⟩ = some (.int .i64 pd) ∧ w'.cell? ⟨wo.heap.size, 3, none⟩ = some (.bool pv) ∧ w'.cell? ⟨w.heap.size + 1 + 1, 2, none⟩ = some (.map (some (w.heap.size + 1))) ∧ Below wo.heap.size wo w') (by kernel_rfl) ?_ (fun hHeld => ?_)
          · (try dsimp only); refine ⟨?_, ?_, ?_, ?_, ?_, ?_⟩ <;> first | assumption | (simp [*, World.cell?_alloc_some]; done)
          refine wpAnyH_take (i := 0) (oi := { dst := some 24, op := Go.Op.move (Go.Operand.tmp 4), type := 79, pos := "l11_papers.go:144", after := #[], guard := none }) (v := ?_) rfl (by kernel_rfl) (by kernel_rfl) (by kernel_rfl) (fun _ _ _ h => h) (Or.inl ⟨by rfl, ?_⟩) (by assumption) ?_
          rotate_left
          · (intro w hSw; (try dsimp only at hSw); go_simp <;> try with_reducible rfl)
          try simp only [Act.put, List.setIfInBounds_toArray, List.set_cons_zero, List.set_cons_succ]
          refine wpAnyH_take (i := 1) (oi := { dst := some 25, op := Go.Op.fieldAddr 32 (Go.Operand.tmp 6) 0, type := 0, pos := "l11_papers.go:144", after := #[], guard := none }) (v := ?_) rfl (by kernel_rfl) (by kernel_rfl) (by kernel_rfl) (fun _ _ _ h => h) (Or.inl ⟨by rfl, ?_⟩) (by assumption) ?_
          rotate_left
          · (intro w hSw; (try dsimp only at hSw); go_simp <;> try with_reducible rfl)
          try simp only [Act.put, List.setIfInBounds_toArray, List.set_cons_zero, List.set_cons_succ]
          refine wpAnyH_take (i := 2) (oi := { dst := some 26, op := Go.Op.load 3 (Go.Operand.tmp 25), type := 3, pos := "l11_papers.go:144", after := #[{ on := 1, ground := Go.Ground.data }], guard := none }) (v := ?_) rfl (by kernel_rfl) (by kernel_rfl) (by kernel_rfl) (fun _ _ _ h => h) (Or.inl ⟨by rfl, ?_⟩) (by assumption) ?_
          rotate_left
          · (intro w hSw; (try dsimp only at hSw); go_simp <;> try with_reducible rfl)
          try simp only [Act.put, List.setIfInBounds_toArray, List.set_cons_zero, List.set_cons_succ]
          refine wpAnyH_take (i := 3) (oi := { dst := some 27, op := Go.Op.fieldAddr 32 (Go.Operand.tmp 6) 2, type := 0, pos := "l11_papers.go:144", after := #[], guard := none }) (v := ?_) rfl (by kernel_rfl) (by kernel_rfl) (by kernel_rfl) (fun _ _ _ h => h) (Or.inl ⟨by rfl, ?_⟩) (by assumption) ?_
          rotate_left
          · (intro w hSw; (try dsimp only at hSw); go_simp <;> try with_reducible rfl)
          try simp only [Act.put, List.setIfInBounds_toArray, List.set_cons_zero, List.set_cons_succ]
          refine wpAnyH_take (i := 4) (oi := { dst := some 28, op := Go.Op.load 3 (Go.Operand.tmp 27), type := 3, pos := "l11_papers.go:144", after := #[{ on := 3, ground := Go.Ground.data }], guard := none }) (v := ?_) rfl (by kernel_rfl) (by kernel_rfl) (by kernel_rfl) (fun _ _ _ h => h) (Or.inl ⟨by rfl, ?_⟩) (by assumption) ?_
          rotate_left
          · (intro w hSw; (try dsimp only at hSw); go_simp <;> try with_reducible rfl)
          try simp only [Act.put, List.setIfInBounds_toArray, List.set_cons_zero, List.set_cons_succ]
          refine wpAnyH_ready (rs := [5]) (by kernel_rfl) (by simp) ?_
          refine AllReadyH.cons (o := { dst := some 29, op := Go.Op.call { callee := Go.Callee.value (Go.Operand.func 55), args := #[Go.Operand.tmp 24, Go.Operand.tmp 26, Go.Operand.tmp 28], argTypes := #[79, 3, 3] }, type := 3, pos := "l11_papers.go:144", after := #[{ on := 0, ground := Go.Ground.data }, { on := 2, ground := Go.Ground.data }, { on := 4, ground := Go.Ground.data }], guard := none }) rfl (fun K hK => ?_) AllReadyH.nil
          go_simp
          (go_at_call 55; refine (refusal_eq _ _ _ _ _ k c p ps pd _ _ (HN.out.below (by assumption)) (HR.out.below (bel_on HB.out (by assumption))) hk4 h hwf (HT.out.below (bel_on HB.out (by assumption))) HRV.out).mono ?_; rintro e w2 ⟨rfl, b2⟩; have q1_0 : w2.cell? ⟨wo.heap.size, 0, none⟩ = some (.int .i64 ps) := keep_cell b2 (by simp [*]); have q1_1 : w2.cell? ⟨wo.heap.size, 1, none⟩ = some (.int .i64 pn) := keep_cell b2 (by simp [*]); have q1_2 : w2.cell? ⟨wo.heap.size, 2, none⟩ = some (.int .i64 pd) := keep_cell b2 (by simp [*]); have q1_3 : w2.cell? ⟨wo.heap.size, 3, none⟩ = some (.bool pv) := keep_cell b2 (by simp [*]); have q1_4 : w2.cell? ⟨w.heap.size + 1 + 1, 2, none⟩ = some (.map (some (w.heap.size + 1))) := keep_cell b2 (by simp [*]); have p1 : Below wo.heap.size wo w2 := bel_on (by assumption) b2; clear b2)
          first | refine hK.out _ _ ?_ (fun hHeld => ?_) | (go_wp2_with fail; refine hK.out _ _ ?_ (fun hHeld => ?_))
          · (try dsimp only); refine ⟨?_, ?_, ?_, ?_, ?_, ?_⟩ <;> first | assumption | (simp [*, World.cell?_alloc_some]; done)
          clear hK K
          try simp only [Act.put, List.setIfInBounds_toArray, List.set_cons_zero, List.set_cons_succ]
          refine wpAnyH_take (i := 6) (oi := { dst := some 30, op := Go.Op.binOp Go.BinOp.neq 3 (Go.Operand.tmp 29) (Go.Operand.const (Go.Value.int Go.IntKind.i64 0)) 3, type := 4, pos := "l11_papers.go:144", after := #[{ on := 5, ground := Go.Ground.data }], guard := none }) (v := ?_) rfl (by kernel_rfl) (by kernel_rfl) (by kernel_rfl) (fun _ _ _ h => h) (Or.inl ⟨by rfl, ?_⟩) (by assumption) ?_
          rotate_left
          · (intro w hSw; (try dsimp only at hSw); go_simp <;> try with_reducible rfl)
          try simp only [Act.put, List.setIfInBounds_toArray, List.set_cons_zero, List.set_cons_succ]
          refine wpAnyH_take (i := 7) (oi := { dst := some 31, op := Go.Op.move (Go.Operand.tmp 30), type := 4, pos := "l11_papers.go:144", after := #[{ on := 6, ground := Go.Ground.data }, { on := 5, ground := Go.Ground.chain }], guard := none }) (v := ?_) rfl (by kernel_rfl) (by kernel_rfl) (by kernel_rfl) (fun _ _ _ h => h) (Or.inl ⟨by rfl, ?_⟩) (by assumption) ?_
          rotate_left
          · (intro w hSw; (try dsimp only at hSw); go_simp <;> try with_reducible rfl)
          try simp only [Act.put, List.setIfInBounds_toArray, List.set_cons_zero, List.set_cons_succ]
          refine wpAnyH_take (i := 8) (oi := { dst := some 32, op := Go.Op.fieldAddr 32 (Go.Operand.tmp 6) 1, type := 0, pos := "l11_papers.go:144", after := #[{ on := 7, ground := Go.Ground.guard }], guard := some (7, false) }) (v := ?_) rfl (by kernel_rfl) (by kernel_rfl) (by kernel_rfl) (fun _ _ _ h => h) (Or.inl ⟨by rfl, ?_⟩) (by assumption) ?_
          rotate_left
          · (intro w hSw; (try dsimp only at hSw); go_simp <;> try with_reducible rfl)
          try simp only [Act.put, List.setIfInBounds_toArray, List.set_cons_zero, List.set_cons_succ]
          refine wpAnyH_take (i := 9) (oi := { dst := some 33, op := Go.Op.load 3 (Go.Operand.tmp 32), type := 3, pos := "l11_papers.go:144", after := #[{ on := 8, ground := Go.Ground.data }, { on := 7, ground := Go.Ground.guard }], guard := some (7, false) }) (v := ?_) rfl (by kernel_rfl) (by kernel_rfl) (by kernel_rfl) (fun _ _ _ h => h) (Or.inl ⟨by rfl, ?_⟩) (by assumption) ?_
          rotate_left
          · (intro w hSw; (try dsimp only at hSw); go_simp <;> try with_reducible rfl)
          try simp only [Act.put, List.setIfInBounds_toArray, List.set_cons_zero, List.set_cons_succ]
          refine wpAnyH_take (i := 10) (oi := { dst := some 34, op := Go.Op.move (Go.Operand.tmp 4), type := 79, pos := "l11_papers.go:144", after := #[{ on := 7, ground := Go.Ground.guard }], guard := some (7, false) }) (v := ?_) rfl (by kernel_rfl) (by kernel_rfl) (by kernel_rfl) (fun _ _ _ h => h) (Or.inl ⟨by rfl, ?_⟩) (by assumption) ?_
          rotate_left
          · (intro w hSw; (try dsimp only at hSw); go_simp <;> try with_reducible rfl)
          try simp only [Act.put, List.setIfInBounds_toArray, List.set_cons_zero, List.set_cons_succ]
          refine wpAnyH_take (i := 11) (oi := { dst := some 35, op := Go.Op.nilCheck (Go.Operand.tmp 34), type := 0, pos := "l11_papers.go:144", after := #[{ on := 10, ground := Go.Ground.data }, { on := 7, ground := Go.Ground.guard }], guard := some (7, false) }) (v := ?_) rfl (by kernel_rfl) (by kernel_rfl) (by kernel_rfl) (fun _ _ _ h => h) (Or.inl ⟨by rfl, ?_⟩) (by assumption) ?_
          rotate_left
          · (intro w hSw; (try dsimp only at hSw); go_simp <;> try with_reducible rfl)
          try simp only [Act.put, List.setIfInBounds_toArray, List.set_cons_zero, List.set_cons_succ]
          refine wpAnyH_take (i := 12) (oi := { dst := some 36, op := Go.Op.fieldAddr 134 (Go.Operand.tmp 35) 2, type := 0, pos := "l11_papers.go:144", after := #[{ on := 11, ground := Go.Ground.data }, { on := 7, ground := Go.Ground.guard }], guard := some (7, false) }) (v := ?_) rfl (by kernel_rfl) (by kernel_rfl) (by kernel_rfl) (fun _ _ _ h => h) (Or.inl ⟨by rfl, ?_⟩) (by assumption) ?_
          rotate_left
          · (intro w hSw; (try dsimp only at hSw); go_simp <;> try with_reducible rfl)
          try simp only [Act.put, List.setIfInBounds_toArray, List.set_cons_zero, List.set_cons_succ]
          refine wpAnyH_take (i := 13) (oi := { dst := some 37, op := Go.Op.load 132 (Go.Operand.tmp 36), type := 132, pos := "l11_papers.go:144", after := #[{ on := 12, ground := Go.Ground.data }, { on := 7, ground := Go.Ground.guard }], guard := some (7, false) }) (v := ?_) rfl (by kernel_rfl) (by kernel_rfl) (by kernel_rfl) (fun _ _ _ h => h) (Or.inl ⟨by rfl, ?_⟩) (by assumption) ?_
          rotate_left
          · (intro w hSw; (try dsimp only at hSw); go_simp <;> try with_reducible rfl)
          try simp only [Act.put, List.setIfInBounds_toArray, List.set_cons_zero, List.set_cons_succ]
          refine wpAnyH_take (i := 14) (oi := { dst := some 38, op := Go.Op.fieldAddr 32 (Go.Operand.tmp 6) 0, type := 0, pos := "l11_papers.go:144", after := #[{ on := 7, ground := Go.Ground.guard }], guard := some (7, false) }) (v := ?_) rfl (by kernel_rfl) (by kernel_rfl) (by kernel_rfl) (fun _ _ _ h => h) (Or.inl ⟨by rfl, ?_⟩) (by assumption) ?_
          rotate_left
          · (intro w hSw; (try dsimp only at hSw); go_simp <;> try with_reducible rfl)
          try simp only [Act.put, List.setIfInBounds_toArray, List.set_cons_zero, List.set_cons_succ]
          refine wpAnyH_take (i := 15) (oi := { dst := some 39, op := Go.Op.load 3 (Go.Operand.tmp 38), type := 3, pos := "l11_papers.go:144", after := #[{ on := 14, ground := Go.Ground.data }, { on := 7, ground := Go.Ground.guard }], guard := some (7, false) }) (v := ?_) rfl (by kernel_rfl) (by kernel_rfl) (by kernel_rfl) (fun _ _ _ h => h) (Or.inl ⟨by rfl, ?_⟩) (by assumption) ?_
          rotate_left
          · (intro w hSw; (try dsimp only at hSw); go_simp <;> try with_reducible rfl)
          try simp only [Act.put, List.setIfInBounds_toArray, List.set_cons_zero, List.set_cons_succ]
          refine wpAnyH_ready (rs := [16]) (by kernel_rfl) (by simp) ?_
          refine AllReadyH.cons (o := { dst := some 40, op := Go.Op.lookup 132 (Go.Operand.tmp 37) (Go.Operand.tmp 39) false, type := 137, pos := "l11_papers.go:144", after := #[{ on := 13, ground := Go.Ground.data }, { on := 15, ground := Go.Ground.data }, { on := 7, ground := Go.Ground.guard }], guard := some (7, false) }) rfl (fun K hK => ?_) AllReadyH.nil
          rw [if_pos (by rfl)]
          (refine oper_lookup (Operand.tmp 37) (Operand.tmp 39) 132 rfl 3 137 key3 Tryd.underlying3 Tryd.underlying132 z2 (zeroEnd _) (w.heap.size + 1) k (fun s => endV (cntP p s k) (lstP p s k)) rfl (HN.out.below (by assumption)).map ps rfl hwf ?_)
          first | refine hK.out _ _ ?_ (fun hHeld => ?_) | (go_wp2_with fail; refine hK.out _ _ ?_ (fun hHeld => ?_))
          · (try dsimp only); refine ⟨?_, ?_, ?_, ?_, ?_, ?_⟩ <;> first | assumption | (simp [*, World.cell?_alloc_some]; done)
          clear hK K
          try simp only [Act.put, List.setIfInBounds_toArray, List.set_cons_zero, List.set_cons_succ]
          refine wpAnyH_ready (rs := [17]) (by kernel_rfl) (by simp) ?_
          refine AllReadyH.cons (o := { dst := some 41, op := Go.Op.call { callee := Go.Callee.value (Go.Operand.func 100), args := #[Go.Operand.tmp 40], argTypes := #[137] }, type := 3, pos := "l11_papers.go:144", after := #[{ on := 16, ground := Go.Ground.data }, { on := 7, ground := Go.Ground.chain }, { on := 7, ground := Go.Ground.guard }], guard := some (7, false) }) rfl (fun K hK => ?_) AllReadyH.nil
          go_simp
          (go_at_call 100; refine (next_at HEV.out _ hcn).mono ?_; rintro e w3 ⟨rfl, b3⟩; have q2_0 : w3.cell? ⟨wo.heap.size, 0, none⟩ = some (.int .i64 ps) := keep_cell b3 (by simp [*]); have q2_1 : w3.cell? ⟨wo.heap.size, 1, none⟩ = some (.int .i64 pn) := keep_cell b3 (by simp [*]); have q2_2 : w3.cell? ⟨wo.heap.size, 2, none⟩ = some (.int .i64 pd) := keep_cell b3 (by simp [*]); have q2_3 : w3.cell? ⟨wo.heap.size, 3, none⟩ = some (.bool pv) := keep_cell b3 (by simp [*]); have q2_4 : w3.cell? ⟨w.heap.size + 1 + 1, 2, none⟩ = some (.map (some (w.heap.size + 1))) := keep_cell b3 (by simp [*]); have p2 : Below wo.heap.size wo w3 := bel_on (by assumption) b3; clear b3)
          first | refine hK.out _ _ ?_ (fun hHeld => ?_) | (go_wp2_with fail; refine hK.out _ _ ?_ (fun hHeld => ?_))
          · (try dsimp only); refine ⟨?_, ?_, ?_, ?_, ?_, ?_⟩ <;> first | assumption | (simp [*, World.cell?_alloc_some]; done)
          clear hK K
          try simp only [Act.put, List.setIfInBounds_toArray, List.set_cons_zero, List.set_cons_succ]
          refine wpAnyH_take (i := 18) (oi := { dst := some 42, op := Go.Op.binOp Go.BinOp.neq 3 (Go.Operand.tmp 33) (Go.Operand.tmp 41) 3, type := 4, pos := "l11_papers.go:144", after := #[{ on := 9, ground := Go.Ground.data }, { on := 17, ground := Go.Ground.data }, { on := 7, ground := Go.Ground.guard }], guard := some (7, false) }) (v := ?_) rfl (by kernel_rfl) (by kernel_rfl) (by kernel_rfl) (fun _ _ _ h => h) (Or.inl ⟨by rfl, ?_⟩) (by assumption) ?_
          rotate_left
          · (intro w hSw; (try dsimp only at hSw); go_simp <;> try with_reducible rfl)
          try simp only [Act.put, List.setIfInBounds_toArray, List.set_cons_zero, List.set_cons_succ]
          refine wpAnyH_take (i := 19) (oi := { dst := some 43, op := Go.Op.pick (Go.Operand.tmp 31) (Go.Operand.const (Go.Value.bool true)) (Go.Operand.tmp 42), type := 4, pos := "l11_papers.go:144", after := #[{ on := 7, ground := Go.Ground.data }, { on := 18, ground := Go.Ground.data }], guard := none }) (v := ?_) rfl (by kernel_rfl) (by kernel_rfl) (by kernel_rfl) (fun _ _ _ h => h) (Or.inl ⟨by rfl, ?_⟩) (by assumption) ?_
          rotate_left
          · (intro w hSw; (try dsimp only at hSw); go_simp <;> try with_reducible rfl)
          try simp only [Act.put, List.setIfInBounds_toArray, List.set_cons_zero, List.set_cons_succ]
          refine wpAnyH_done (by kernel_rfl) ?_ _
          refine NoPanic.normal ?_
          go_wp2
          go_returns
          exact opF _ HF.out (bel_on HB.out p2)
      · have HF : Hid (regB len c np p = false) := regB_bad hlt fun G => by have := G.1; rw [HX.out] at this; (try dsimp only at this); rw [HRV.out] at this; exact hz this
        have hne : (rv == 0) = false := eq_f hz
        have hne2 : (rv != 0) = true := by simp [hz]
        clear hz
        go_wp2
        refine wp_region_noPanic ?_
        refine wp_region_held_drew (S := fun w' => w'.cell? ⟨wo.heap.size, 0, none⟩ = some (.int .i64 ps) ∧ w'.cell? ⟨wo.heap.size, 1, none⟩ = some (.int .i64 pn) ∧ w'.cell? ⟨wo.heap.size, 2, none⟩ = some (.int .i64 pd) ∧ w'.cell? ⟨wo.heap.size, 3, none⟩ = some (.bool pv) ∧ w'.cell? ⟨w.heap.size + 1 + 1, 2, none⟩ = some (.map (some (w.heap.size + 1))) ∧ Below wo.heap.size wo w') (by kernel_rfl) ?_ (fun hHeld => ?_)
        · (try dsimp only); refine ⟨?_, ?_, ?_, ?_, ?_, ?_⟩ <;> first | assumption | (simp [*, World.cell?_alloc_some]; done)
        refine wpAnyH_take (i := 0) (oi := { dst := some 24, op := Go.Op.move (Go.Operand.tmp 4), type := 79, pos := "l11_papers.go:144", after := #[], guard := none }) (v := ?_) rfl (by kernel_rfl) (by kernel_rfl) (by kernel_rfl) (fun _ _ _ h => h) (Or.inl ⟨by rfl, ?_⟩) (by assumption) ?_
        rotate_left
        · (intro w hSw; (try dsimp only at hSw); go_simp <;> try with_reducible rfl)
        try simp only [Act.put, List.setIfInBounds_toArray, List.set_cons_zero, List.set_cons_succ]
        refine wpAnyH_take (i := 1) (oi := { dst := some 25, op := Go.Op.fieldAddr 32 (Go.Operand.tmp 6) 0, type := 0, pos := "l11_papers.go:144", after := #[], guard := none }) (v := ?_) rfl (by kernel_rfl) (by kernel_rfl) (by kernel_rfl) (fun _ _ _ h => h) (Or.inl ⟨by rfl, ?_⟩) (by assumption) ?_
        rotate_left
        · (intro w hSw; (try dsimp only at hSw); go_simp <;> try with_reducible rfl)
        try simp only [Act.put, List.setIfInBounds_toArray, List.set_cons_zero, List.set_cons_succ]
        refine wpAnyH_take (i := 2) (oi := { dst := some 26, op := Go.Op.load 3 (Go.Operand.tmp 25), type := 3, pos := "l11_papers.go:144", after := #[{ on := 1, ground := Go.Ground.data }], guard := none }) (v := ?_) rfl (by kernel_rfl) (by kernel_rfl) (by kernel_rfl) (fun _ _ _ h => h) (Or.inl ⟨by rfl, ?_⟩) (by assumption) ?_
        rotate_left
        · (intro w hSw; (try dsimp only at hSw); go_simp <;> try with_reducible rfl)
        try simp only [Act.put, List.setIfInBounds_toArray, List.set_cons_zero, List.set_cons_succ]
        refine wpAnyH_take (i := 3) (oi := { dst := some 27, op := Go.Op.fieldAddr 32 (Go.Operand.tmp 6) 2, type := 0, pos := "l11_papers.go:144", after := #[], guard := none }) (v := ?_) rfl (by kernel_rfl) (by kernel_rfl) (by kernel_rfl) (fun _ _ _ h => h) (Or.inl ⟨by rfl, ?_⟩) (by assumption) ?_
        rotate_left
        · (intro w hSw; (try dsimp only at hSw); go_simp <;> try with_reducible rfl)
        try simp only [Act.put, List.setIfInBounds_toArray, List.set_cons_zero, List.set_cons_succ]
        refine wpAnyH_take (i := 4) (oi := { dst := some 28, op := Go.Op.load 3 (Go.Operand.tmp 27), type := 3, pos := "l11_papers.go:144", after := #[{ on := 3, ground := Go.Ground.data }], guard := none }) (v := ?_) rfl (by kernel_rfl) (by kernel_rfl) (by kernel_rfl) (fun _ _ _ h => h) (Or.inl ⟨by rfl, ?_⟩) (by assumption) ?_
        rotate_left
        · (intro w hSw; (try dsimp only at hSw); go_simp <;> try with_reducible rfl)
        try simp only [Act.put, List.setIfInBounds_toArray, List.set_cons_zero, List.set_cons_succ]
        refine wpAnyH_ready (rs := [5]) (by kernel_rfl) (by simp) ?_
        refine AllReadyH.cons (o := { dst := some 29, op := Go.Op.call { callee := Go.Callee.value (Go.Operand.func 55), args := #[Go.Operand.tmp 24, Go.Operand.tmp 26, Go.Operand.tmp 28], argTypes := #[79, 3, 3] }, type := 3, pos := "l11_papers.go:144", after := #[{ on := 0, ground := Go.Ground.data }, { on := 2, ground := Go.Ground.data }, { on := 4, ground := Go.Ground.data }], guard := none }) rfl (fun K hK => ?_) AllReadyH.nil
        go_simp
        (go_at_call 55; refine (refusal_eq _ _ _ _ _ k c p ps pd _ _ (HN.out.below (by assumption)) (HR.out.below (bel_on HB.out (by assumption))) hk4 h hwf (HT.out.below (bel_on HB.out (by assumption))) HRV.out).mono ?_; rintro e w2 ⟨rfl, b2⟩; have q1_0 : w2.cell? ⟨wo.heap.size, 0, none⟩ = some (.int .i64 ps) := keep_cell b2 (by simp [*]); have q1_1 : w2.cell? ⟨wo.heap.size, 1, none⟩ = some (.int .i64 pn) := keep_cell b2 (by simp [*]); have q1_2 : w2.cell? ⟨wo.heap.size, 2, none⟩ = some (.int .i64 pd) := keep_cell b2 (by simp [*]); have q1_3 : w2.cell? ⟨wo.heap.size, 3, none⟩ = some (.bool pv) := keep_cell b2 (by simp [*]); have q1_4 : w2.cell? ⟨w.heap.size + 1 + 1, 2, none⟩ = some (.map (some (w.heap.size + 1))) := keep_cell b2 (by simp [*]); have p1 : Below wo.heap.size wo w2 := bel_on (by assumption) b2; clear b2)
        first | refine hK.out _ _ ?_ (fun hHeld => ?_) | (go_wp2_with fail; refine hK.out _ _ ?_ (fun hHeld => ?_))
        · (try dsimp only); refine ⟨?_, ?_, ?_, ?_, ?_, ?_⟩ <;> first | assumption | (simp [*, World.cell?_alloc_some]; done)
        clear hK K
        try simp only [Act.put, List.setIfInBounds_toArray, List.set_cons_zero, List.set_cons_succ]
        refine wpAnyH_take (i := 6) (oi := { dst := some 30, op := Go.Op.binOp Go.BinOp.neq 3 (Go.Operand.tmp 29) (Go.Operand.const (Go.Value.int Go.IntKind.i64 0)) 3, type := 4, pos := "l11_papers.go:144", after := #[{ on := 5, ground := Go.Ground.data }], guard := none }) (v := ?_) rfl (by kernel_rfl) (by kernel_rfl) (by kernel_rfl) (fun _ _ _ h => h) (Or.inl ⟨by rfl, ?_⟩) (by assumption) ?_
        rotate_left
        · (intro w hSw; (try dsimp only at hSw); go_simp <;> try with_reducible rfl)
        try simp only [Act.put, List.setIfInBounds_toArray, List.set_cons_zero, List.set_cons_succ]
        refine wpAnyH_take (i := 7) (oi := { dst := some 31, op := Go.Op.move (Go.Operand.tmp 30), type := 4, pos := "l11_papers.go:144", after := #[{ on := 6, ground := Go.Ground.data }, { on := 5, ground := Go.Ground.chain }], guard := none }) (v := ?_) rfl (by kernel_rfl) (by kernel_rfl) (by kernel_rfl) (fun _ _ _ h => h) (Or.inl ⟨by rfl, ?_⟩) (by assumption) ?_
        rotate_left
        · (intro w hSw; (try dsimp only at hSw); go_simp <;> try with_reducible rfl)
        try simp only [Act.put, List.setIfInBounds_toArray, List.set_cons_zero, List.set_cons_succ]
        refine wpAnyH_take (i := 8) (oi := { dst := some 32, op := Go.Op.fieldAddr 32 (Go.Operand.tmp 6) 1, type := 0, pos := "l11_papers.go:144", after := #[{ on := 7, ground := Go.Ground.guard }], guard := some (7, false) }) (v := undef) rfl (by kernel_rfl) (by kernel_rfl) (by kernel_rfl) (fun _ _ _ h => h) (Or.inr ⟨by rfl, rfl⟩) (by assumption) ?_
        try simp only [Act.put, List.setIfInBounds_toArray, List.set_cons_zero, List.set_cons_succ]
        refine wpAnyH_take (i := 9) (oi := { dst := some 33, op := Go.Op.load 3 (Go.Operand.tmp 32), type := 3, pos := "l11_papers.go:144", after := #[{ on := 8, ground := Go.Ground.data }, { on := 7, ground := Go.Ground.guard }], guard := some (7, false) }) (v := undef) rfl (by kernel_rfl) (by kernel_rfl) (by kernel_rfl) (fun _ _ _ h => h) (Or.inr ⟨by rfl, rfl⟩) (by assumption) ?_
        try simp only [Act.put, List.setIfInBounds_toArray, List.set_cons_zero, List.set_cons_succ]
        refine wpAnyH_take (i := 10) (oi := { dst := some 34, op := Go.Op.move (Go.Operand.tmp 4), type := 79, pos := "l11_papers.go:144", after := #[{ on := 7, ground := Go.Ground.guard }], guard := some (7, false) }) (v := undef) rfl (by kernel_rfl) (by kernel_rfl) (by kernel_rfl) (fun _ _ _ h => h) (Or.inr ⟨by rfl, rfl⟩) (by assumption) ?_
        try simp only [Act.put, List.setIfInBounds_toArray, List.set_cons_zero, List.set_cons_succ]
        refine wpAnyH_take (i := 11) (oi := { dst := some 35, op := Go.Op.nilCheck (Go.Operand.tmp 34), type := 0, pos := "l11_papers.go:144", after := #[{ on := 10, ground := Go.Ground.data }, { on := 7, ground := Go.Ground.guard }], guard := some (7, false) }) (v := undef) rfl (by kernel_rfl) (by kernel_rfl) (by kernel_rfl) (fun _ _ _ h => h) (Or.inr ⟨by rfl, rfl⟩) (by assumption) ?_
        try simp only [Act.put, List.setIfInBounds_toArray, List.set_cons_zero, List.set_cons_succ]
        refine wpAnyH_take (i := 12) (oi := { dst := some 36, op := Go.Op.fieldAddr 134 (Go.Operand.tmp 35) 2, type := 0, pos := "l11_papers.go:144", after := #[{ on := 11, ground := Go.Ground.data }, { on := 7, ground := Go.Ground.guard }], guard := some (7, false) }) (v := undef) rfl (by kernel_rfl) (by kernel_rfl) (by kernel_rfl) (fun _ _ _ h => h) (Or.inr ⟨by rfl, rfl⟩) (by assumption) ?_
        try simp only [Act.put, List.setIfInBounds_toArray, List.set_cons_zero, List.set_cons_succ]
        refine wpAnyH_take (i := 13) (oi := { dst := some 37, op := Go.Op.load 132 (Go.Operand.tmp 36), type := 132, pos := "l11_papers.go:144", after := #[{ on := 12, ground := Go.Ground.data }, { on := 7, ground := Go.Ground.guard }], guard := some (7, false) }) (v := undef) rfl (by kernel_rfl) (by kernel_rfl) (by kernel_rfl) (fun _ _ _ h => h) (Or.inr ⟨by rfl, rfl⟩) (by assumption) ?_
        try simp only [Act.put, List.setIfInBounds_toArray, List.set_cons_zero, List.set_cons_succ]
        refine wpAnyH_take (i := 14) (oi := { dst := some 38, op := Go.Op.fieldAddr 32 (Go.Operand.tmp 6) 0, type := 0, pos := "l11_papers.go:144", after := #[{ on := 7, ground := Go.Ground.guard }], guard := some (7, false) }) (v := undef) rfl (by kernel_rfl) (by kernel_rfl) (by kernel_rfl) (fun _ _ _ h => h) (Or.inr ⟨by rfl, rfl⟩) (by assumption) ?_
        try simp only [Act.put, List.setIfInBounds_toArray, List.set_cons_zero, List.set_cons_succ]
        refine wpAnyH_take (i := 15) (oi := { dst := some 39, op := Go.Op.load 3 (Go.Operand.tmp 38), type := 3, pos := "l11_papers.go:144", after := #[{ on := 14, ground := Go.Ground.data }, { on := 7, ground := Go.Ground.guard }], guard := some (7, false) }) (v := undef) rfl (by kernel_rfl) (by kernel_rfl) (by kernel_rfl) (fun _ _ _ h => h) (Or.inr ⟨by rfl, rfl⟩) (by assumption) ?_
        try simp only [Act.put, List.setIfInBounds_toArray, List.set_cons_zero, List.set_cons_succ]
        refine wpAnyH_take (i := 16) (oi := { dst := some 40, op := Go.Op.lookup 132 (Go.Operand.tmp 37) (Go.Operand.tmp 39) false, type := 137, pos := "l11_papers.go:144", after := #[{ on := 13, ground := Go.Ground.data }, { on := 15, ground := Go.Ground.data }, { on := 7, ground := Go.Ground.guard }], guard := some (7, false) }) (v := undef) rfl (by kernel_rfl) (by kernel_rfl) (by kernel_rfl) (fun _ _ _ h => h) (Or.inr ⟨by rfl, rfl⟩) (by assumption) ?_
        try simp only [Act.put, List.setIfInBounds_toArray, List.set_cons_zero, List.set_cons_succ]
        refine wpAnyH_take (i := 17) (oi := { dst := some 41, op := Go.Op.call { callee := Go.Callee.value (Go.Operand.func 100), args := #[Go.Operand.tmp 40], argTypes := #[137] }, type := 3, pos := "l11_papers.go:144", after := #[{ on := 16, ground := Go.Ground.data }, { on := 7, ground := Go.Ground.chain }, { on := 7, ground := Go.Ground.guard }], guard := some (7, false) }) (v := undef) rfl (by kernel_rfl) (by kernel_rfl) (by kernel_rfl) (fun _ _ _ h => h) (Or.inr ⟨by rfl, rfl⟩) (by assumption) ?_
        try simp only [Act.put, List.setIfInBounds_toArray, List.set_cons_zero, List.set_cons_succ]
        refine wpAnyH_take (i := 18) (oi := { dst := some 42, op := Go.Op.binOp Go.BinOp.neq 3 (Go.Operand.tmp 33) (Go.Operand.tmp 41) 3, type := 4, pos := "l11_papers.go:144", after := #[{ on := 9, ground := Go.Ground.data }, { on := 17, ground := Go.Ground.data }, { on := 7, ground := Go.Ground.guard }], guard := some (7, false) }) (v := undef) rfl (by kernel_rfl) (by kernel_rfl) (by kernel_rfl) (fun _ _ _ h => h) (Or.inr ⟨by rfl, rfl⟩) (by assumption) ?_
        try simp only [Act.put, List.setIfInBounds_toArray, List.set_cons_zero, List.set_cons_succ]
        refine wpAnyH_take (i := 19) (oi := { dst := some 43, op := Go.Op.pick (Go.Operand.tmp 31) (Go.Operand.const (Go.Value.bool true)) (Go.Operand.tmp 42), type := 4, pos := "l11_papers.go:144", after := #[{ on := 7, ground := Go.Ground.data }, { on := 18, ground := Go.Ground.data }], guard := none }) (v := ?_) rfl (by kernel_rfl) (by kernel_rfl) (by kernel_rfl) (fun _ _ _ h => h) (Or.inl ⟨by rfl, ?_⟩) (by assumption) ?_
        rotate_left
        · (intro w hSw; (try dsimp only at hSw); go_simp <;> try with_reducible rfl)
        try simp only [Act.put, List.setIfInBounds_toArray, List.set_cons_zero, List.set_cons_succ]
        refine wpAnyH_done (by kernel_rfl) ?_ _
        refine NoPanic.normal ?_
        go_wp2
        go_returns
        exact opF _ HF.out (bel_on HB.out p1)
    · obtain rfl : k = np := by omega
      have lkk : ¬ (k : Int) < (k : Int) := by omega
      have HG : Hid (RegP len c k p) := ⟨HSP.out, HH.out.1⟩
      have HF : Hid (regB len c k p = true) := regB_t HG.out
      go_wp2
      go_returns
      exact opT HG.out HH.out.2.1 (by omega) (by omega) HH.out.2.2
end Go.Proofs.YtdhpadcihlmhiaaDoor
