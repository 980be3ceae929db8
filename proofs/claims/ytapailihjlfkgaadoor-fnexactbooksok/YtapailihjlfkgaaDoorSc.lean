/- Whether a chart is right, in the model. -/
import Derived.Test.YtapailihjlfkgaaDoorSd
namespace Go.Proofs.YtapailihjlfkgaaDoor
open Go.ChangeShapes Go.WideShapes Go.ChangeAt Go.RowKit
set_option linter.unusedVariables false
set_option linter.unusedSimpArgs false

theorem specName_eq (s : ByteArray) {v : Bool} (w : World) (hs : s.size ≤ maxLen) (hv : nameB s = v) :
    Calls Tryd.prog 97 #[.string s] w fun e w' => e = .returned (.bool v) ∧ w' = w := hv ▸ specName_any s w hs
theorem chartB_bad {n i : Nat} {c : Nat → C3} (hi : i < n) (h : ¬ OkAt c i) : chartB n c = false := chartB_no (fun q => h (q.2.2 i hi))
theorem lists_t {s t : ByteArray} (h : s = t) : (s.toList == t.toList) = true := by subst h; simp
theorem lists_f {s t : ByteArray} (h : s ≠ t) : (s.toList == t.toList) = false := by
  rw [Bool.eq_false_iff]
  intro g
  simp only [beq_iff_eq, ByteArray.toList_eq] at g
  exact h (ByteArray.ext (Array.toList_inj.1 g))

theorem bd_N {B : Nat} {a w : World} (h : Below B a w) (q : Nat) : Below B a (w.drewN q) := ⟨h.os, h.tape, h.output, h.size, h.block⟩

theorem way_top {P : Nat → Int} {n : Nat} (L : Low P n) : ∀ s, s ≤ n → upW P (atP (-1)) s ≠ none := by
  intro s
  induction s using Nat.strongRecOn with
  | _ s ih =>
    intro hs
    cases s with
    | zero => rw [upW_hit (atP_iff.2 (by omega))]; simp
    | succ i =>
      have hl := L i (by omega)
      rw [upW_step L (by omega) (by cases e : atP (-1) (i + 1) with | false => rfl | true => have := atP_iff.1 e; omega)]
      exact ih _ (by omega) (by omega)

set_option maxRecDepth 20000 in
set_option maxHeartbeats 4000000 in
theorem specChartOk_any (ad : Option Addr) (len cap : Nat) (c : Nat → C3) (w : World) (hl : (len : Int) ≤ 1048576) (hc : ∀ j, (c j).code.size ≤ maxLen) (hr : CR w ad len c) :
    Calls Tryd.prog 63 #[.slice ad len cap] w fun e w' => e = .returned (.bool (chartB len c)) ∧ Below w.heap.size w w' := by
  have HB0 : Hid (Below w.heap.size w w) := Below.refl _ _
  by_cases hin : 1 ≤ len ∧ len ≤ 120
  case neg =>
    have hf : inB (len : Int) 1 120 = false := inB_f (by omega)
    have HF : Hid (chartB len c = false) := chartB_no (fun q => hin ⟨q.1, q.2.1⟩)
    clear hr hc hin
    go_enter Tryd.func63, Tryd.ntmps63
    go_wp2_with (go_at_call 43; refine (l1In_any _ _ _ _).mono ?_; rintro e w' ⟨rfl, ew⟩; replace ew := ew.symm; subst ew)
    go_returns
    rw [HF.out]
    exact ⟨rfl, HB0.out⟩
  obtain ⟨hin1, hin2⟩ := hin
  have hf : inB (len : Int) 1 120 = true := inB_t (by omega) (by omega)
  obtain ⟨kb, off, rfl, hkb⟩ := hr.addr (by omega)
  have HR : Hid (CR w (some ⟨kb, off, none⟩) len c) := hr
  have HL : Hid (∀ j, (c j).code.size ≤ maxLen) := hc
  clear hr hc
  go_enter Tryd.func63, Tryd.ntmps63
  go_wp2_with (go_at_call 43; refine (l1In_any _ _ _ _).mono ?_; rintro e w' ⟨rfl, ew⟩; replace ew := ew.symm; subst ew)
  go_loopw [3] (fun i wr => ∃ (k : Nat), k ≤ len ∧ i = .int .i64 (k : Int) ∧ RightTo c k ∧ Below w.heap.size w wr) (fun i _ => len - (intOf i).toNat)
  case atStart => exact ⟨0, Nat.zero_le _, rfl, fun i hi => by omega, HB0.out⟩
  case round =>
    obtain ⟨k, hk, rfl, hR, hB⟩ := hrel
    by_cases hlt : k < len
    case neg =>
      obtain rfl : k = len := by omega
      have HF : Hid (chartB k c = true) := chartB_iff.2 ⟨hin1, hin2, hR⟩
      have HB : Hid (Below w.heap.size w wr) := hB
      clear hB hR
      go_wp2
      go_returns
      rw [HF.out]
      exact ⟨rfl, HB.out⟩
    have hsz := hB.size
    have HB : Hid (Below w.heap.size w wr) := hB
    have HB1 : Hid (∀ o q, Below w.heap.size w ((wr.alloc o).drewN q)) := fun o q => ⟨hB.os, hB.tape, hB.output, by have := (hB.alloc hsz o).size; exact this, (hB.alloc hsz o).block⟩
    have HRk : Hid (CR wr (some ⟨kb, off, none⟩) len c) := HR.out.below hB
    have HRT : Hid (RightTo c k) := hR
    have hsk := HL.out k
    obtain ⟨c1, c2, c3⟩ := HRk.out.cell hlt
    obtain ⟨a, ha⟩ : ∃ a, c k = a := ⟨_, rfl⟩
    rw [ha] at c1 c2 c3 hsk
    have HA : Hid (c k = a) := ha
    clear ha hB hR
    cases hA : nameB a.code with
    | false =>
      have HF : Hid (chartB len c = false) := chartB_bad hlt (fun q => by have := q.name; rw [HA.out, hA] at this; cases this)
      go_wp2_with (go_at_call 97; refine (specName_eq _ _ hsk hA).mono ?_; rintro e w' ⟨rfl, ew⟩; replace ew := ew.symm; subst ew)
      go_returns
      rw [HF.out]
      exact ⟨rfl, HB1.out _ 0⟩
    | true =>
    cases hK : inB a.step 1 5 with
    | false =>
      have HF : Hid (chartB len c = false) := chartB_bad hlt (fun q => by have := q.kind; rw [HA.out] at this; rw [inB_t this.1 this.2] at hK; cases hK)
      go_wp2_with (first
        | (go_at_call 97; refine (specName_eq _ _ hsk hA).mono ?_; rintro e w' ⟨rfl, ew⟩; replace ew := ew.symm; subst ew)
        | (go_at_call 43; refine (l1In_any _ _ _ _).mono ?_; rintro e w' ⟨rfl, ew⟩; replace ew := ew.symm; subst ew))
      go_returns
      rw [HF.out]
      exact ⟨rfl, HB1.out _ 0⟩
    | true =>
    cases hP : inB a.places (-1) ((k : Int) - 1) with
    | false =>
      have HF : Hid (chartB len c = false) := chartB_bad hlt (fun q => by have := q.low; unfold par at this; rw [HA.out] at this; rw [inB_t this.1 (by omega)] at hP; cases hP)
      go_wp2_with (first
        | (go_at_call 97; refine (specName_eq _ _ hsk hA).mono ?_; rintro e w' ⟨rfl, ew⟩; replace ew := ew.symm; subst ew)
        | (go_at_call 43; refine (l1In_any _ _ _ _).mono ?_; rintro e w' ⟨rfl, ew⟩; replace ew := ew.symm; subst ew))
      go_returns
      rw [HF.out]
      exact ⟨rfl, HB1.out _ 0⟩
    | true =>
    have hpl := inB_iff.1 hP
    go_wp2_with (first
      | (go_at_call 97; refine (specName_eq _ _ hsk hA).mono ?_; rintro e w' ⟨rfl, ew⟩; replace ew := ew.symm; subst ew)
      | (go_at_call 43; refine (l1In_any _ _ _ _).mono ?_; rintro e w' ⟨rfl, ew⟩; replace ew := ew.symm; subst ew))
    obtain ⟨W, hW⟩ : ∃ W, W = wr.alloc (.cells #[.string a.code, .int .i64 a.places, .int .i64 a.step] 43 (0, 0)) := ⟨_, rfl⟩
    have C1 := CB.newAt (w := wr) (b := wr.heap.size) rfl #[.string a.code, .int .i64 a.places, .int .i64 a.step] 43
    have BW := (HB1.out (.cells #[.string a.code, .int .i64 a.places, .int .i64 a.step] 43 (0, 0)) 0)
    have RW := HRk.out.alloc (.cells #[.string a.code, .int .i64 a.places, .int .i64 a.step] 43 (0, 0))
    rw [← hW] at C1 RW ⊢
    have BW2 : Hid (Below w.heap.size w W) := by rw [hW]; exact BW
    have b0 : W.cell? ⟨wr.heap.size, 0, none⟩ = some (.string a.code) := (C1.cell 0).trans rfl
    have b1 : W.cell? ⟨wr.heap.size, 1, none⟩ = some (.int .i64 a.places) := (C1.cell 1).trans rfl
    have b2 : W.cell? ⟨wr.heap.size, 2, none⟩ = some (.int .i64 a.step) := (C1.cell 2).trans rfl
    have HRW : Hid (CR W (some ⟨kb, off, none⟩) len c) := RW
    clear hW C1 BW RW c1 c2 c3 HB1 HRk HB
    go_loopw [5] (fun i w2 => ∃ n q : Nat, n ≤ k ∧ i = .int .i64 (n : Int) ∧ Hid (∀ j, j < n → (c j).code ≠ a.code) ∧ w2 = W.drewN q) (fun i _ => k - (intOf i).toNat)
    case atStart => exact ⟨0, 0, Nat.zero_le _, rfl, fun j hj => by omega, rfl⟩
    case round =>
      obtain ⟨n, q, hn, rfl, HN, rfl⟩ := hrel
      by_cases hnk : n < k
      · obtain ⟨d1, _, _⟩ := HRW.out.cell (j := n) (by omega)
        obtain ⟨ys, hy⟩ : ∃ s, (c n).code = s := ⟨_, rfl⟩
        rw [hy] at d1
        have hn20 : (n : Int) < (len : Int) := by omega
        by_cases g : ys = a.code
        · have HF : Hid (chartB len c = false) := chartB_bad hlt fun H => by have := H.once n hnk; rw [HA.out] at this; exact this (hy.trans g)
          have e1 := lists_t g
          clear g hy
          go_wp2
          go_quiet (fail)
          go_wp2
          go_returns
          exact ⟨ret_bool HF.out.symm, bd_N (bd_N BW2.out _) _⟩
        · have HF : Hid (∀ j, j < n + 1 → (c j).code ≠ a.code) := fun j hj => by
            by_cases e : j = n
            · subst e; rw [hy]; exact g
            · exact HN.out j (by omega)
          have e1 := lists_f g
          clear g hy
          go_wp2
          go_quiet (fail)
          go_wp2
          go_roundw
          case rel => exact ⟨n + 1, q + nq, by omega, by go_num, HF, rfl⟩
          case measure => simp [intOf]; omega
      · obtain rfl : n = k := by omega
        clear b0
        have once : Hid (∀ j, j < n → (c j).code ≠ a.code) := HN
        obtain ⟨W3, hW3⟩ : ∃ W3, W3 = W.drewN q := ⟨_, rfl⟩
        have BW3 : Hid (Below w.heap.size w W3) := by rw [hW3]; exact bd_N BW2.out q
        have HR3 : Hid (CR W3 (some ⟨kb, off, none⟩) len c) := by rw [hW3]; exact HRW.out
        have d1 : W3.cell? ⟨wr.heap.size, 1, none⟩ = some (.int .i64 a.places) := by rw [hW3]; exact b1
        have d2 : W3.cell? ⟨wr.heap.size, 2, none⟩ = some (.int .i64 a.step) := by rw [hW3]; exact b2
        rw [← hW3]
        clear hW3 b1 b2 HRW BW2
        by_cases hneg : a.places < 0
        · have hm1 : a.places = -1 := by omega
          have HOK : Hid (RightTo c (n + 1)) := HRT.out.succ (by
            have hp : par c n = -1 := by unfold par; rw [HA.out]; exact hm1
            refine ⟨by rw [HA.out]; exact hA, by rw [HA.out]; exact inB_iff.1 hK, by rw [HA.out]; exact once.out, ?_, fun q => by omega, by rw [hp]; show dep (par c) 0 ≤ 8; rw [dep_zero]; omega⟩
            rw [hp]
            exact way_top HRT.out.low n (Nat.le_refl _))
          rw [hm1] at d1
          go_wp2
          go_roundw
          case rel => exact ⟨n + 1, by omega, by go_num, HOK.out, BW3.out⟩
          case measure => simp [intOf]; omega
        · have hge : 0 ≤ a.places := by omega
          obtain ⟨p, hp⟩ : ∃ p : Nat, a.places = (p : Int) := ⟨a.places.toNat, by omega⟩
          have hpn : p < n := by omega
          have hpar : Hid (par c n = (p : Int)) := by show par c n = (p : Int); unfold par; rw [HA.out]; exact hp
          rw [hp] at d1
          clear hneg hge hpl hP
          have hlow : Low (par c) (n + 1) := fun i hi => by
            by_cases e : i = n
            · subst e; rw [hpar.out]; omega
            · exact HRT.out.low i (by omega)
          have HLW : Hid (Low (par c) (n + 1)) := hlow
          clear hlow
          go_wp2
          go_loop [6] (fun u => ∃ (s : Nat) (z : Int), u = .int .i64 z ∧ z = (s : Int) - 1 ∧ s ≤ n ∧ upW (par c) (atP (p : Int)) s = upW (par c) (atP (p : Int)) n) (fun u => (intOf u + 1).toNat)
          case atStart => exact ⟨n, _, rfl, rfl, Nat.le_refl _, rfl⟩
          case round =>
            obtain ⟨s, z, rfl, hz, hs, hup⟩ := hrel
            cases s with
            | zero =>
              obtain rfl : z = -1 := by omega
              clear hz
              have HF : Hid (chartB len c = false) := chartB_bad hlt fun H => H.way (by rw [hpar.out, ← hup]; exact upW_top (by cases e : atP (p : Int) 0 with | false => rfl | true => have := atP_iff.1 e; omega))
              clear hup
              go_wp2
              go_quiet (fail)
              go_wp2
              go_returns
              exact ⟨ret_bool HF.out.symm, bd_N BW3.out _⟩
            | succ t =>
              obtain rfl : z = (t : Int) := by omega
              clear hz
              obtain ⟨x1, x2, x3⟩ := HR3.out.cell (by omega : t < len)
              have htl : (t : Int) < (len : Int) := by omega
              by_cases htp : t = p
              · subst htp
                have HUP : Hid (upW (par c) (atP (t : Int)) (t + 1) = upW (par c) (atP (t : Int)) n) := hup
                clear hup
                obtain ⟨kk, hkk⟩ : ∃ kk, (c t).step = kk := ⟨_, rfl⟩
                rw [hkk] at x3
                have dneg : decide ((t : Int) < 0) = false := decide_eq_false (by omega)
                by_cases hke : kk = a.step
                · subst hke
                  obtain ⟨d, hd⟩ : ∃ d : Int, (dep (par c) (n + 1) : Int) - 1 = d := ⟨_, rfl⟩
                  have hself := dep_self HLW.out (n + 1) (Nat.le_refl _)
                  have hds : dep (par c) (n + 1) = dep (par c) (par c n + 1).toNat + 1 := dep_step HLW.out (by omega)
                  have HD : Hid (Calls Tryd.prog 98 #[.slice (some ⟨kb, off, none⟩) len cap, .int .i64 (n : Int)] W3.drew fun e w' => e = .returned (.int .i64 d) ∧ w' = W3.drew) := l4Deep_eq _ len cap c W3.drew n hl HR3.out hlt HLW.out hd
                  by_cases hd8 : d > 8
                  · have HF : Hid (chartB len c = false) := chartB_bad hlt fun H => by have := H.deep; omega
                    have d8 : decide (8 < d) = true := decide_eq_true hd8
                    clear hself hds hd hkk
                    go_wp2
                    refine wp_region_noPanic ?_
                    refine wp_region_held_drew (S := fun w' => w'.cell? ⟨kb, off + t * 3 + 2, none⟩ = some (.int .i64 a.step) ∧ w'.cell? ⟨wr.heap.size, 2, none⟩ = some (.int .i64 a.step)) (by kernel_rfl) ?_ (fun hHeld => ?_)
                    · exact ⟨x3, d2⟩
                    refine wpAnyH_take (i := 0) (oi := { dst := some 70, op := Go.Op.move (Go.Operand.tmp 6), type := 3, pos := "l04_accounts.go:36", after := #[], guard := none }) (v := ?_) rfl (by kernel_rfl) (by kernel_rfl) (by kernel_rfl) (fun _ _ _ h => h) (Or.inl ⟨by rfl, ?_⟩) (by assumption) ?_
                    rotate_left
                    · (intro w hSw; (try dsimp only at hSw); go_simp <;> try with_reducible rfl)
                    try simp only [Act.put, List.setIfInBounds_toArray, List.set_cons_zero, List.set_cons_succ]
                    refine wpAnyH_take (i := 1) (oi := { dst := some 71, op := Go.Op.binOp Go.BinOp.lss 3 (Go.Operand.tmp 70) (Go.Operand.const (Go.Value.int Go.IntKind.i64 0)) 3, type := 4, pos := "l04_accounts.go:36", after := #[{ on := 0, ground := Go.Ground.data }], guard := none }) (v := ?_) rfl (by kernel_rfl) (by kernel_rfl) (by kernel_rfl) (fun _ _ _ h => h) (Or.inl ⟨by rfl, ?_⟩) (by assumption) ?_
                    rotate_left
                    · (intro w hSw; (try dsimp only at hSw); go_simp <;> try with_reducible rfl)
                    try simp only [Act.put, List.setIfInBounds_toArray, List.set_cons_zero, List.set_cons_succ]
                    refine wpAnyH_take (i := 2) (oi := { dst := some 72, op := Go.Op.move (Go.Operand.tmp 71), type := 4, pos := "l04_accounts.go:36", after := #[{ on := 1, ground := Go.Ground.data }], guard := none }) (v := ?_) rfl (by kernel_rfl) (by kernel_rfl) (by kernel_rfl) (fun _ _ _ h => h) (Or.inl ⟨by rfl, ?_⟩) (by assumption) ?_
                    rotate_left
                    · (intro w hSw; (try dsimp only at hSw); go_simp <;> try with_reducible rfl)
                    try simp only [Act.put, List.setIfInBounds_toArray, List.set_cons_zero, List.set_cons_succ]
                    refine wpAnyH_take (i := 3) (oi := { dst := some 73, op := Go.Op.move (Go.Operand.tmp 0), type := 24, pos := "l04_accounts.go:36", after := #[{ on := 2, ground := Go.Ground.guard }], guard := some (2, false) }) (v := ?_) rfl (by kernel_rfl) (by kernel_rfl) (by kernel_rfl) (fun _ _ _ h => h) (Or.inl ⟨by rfl, ?_⟩) (by assumption) ?_
                    rotate_left
                    · (intro w hSw; (try dsimp only at hSw); go_simp <;> try with_reducible rfl)
                    try simp only [Act.put, List.setIfInBounds_toArray, List.set_cons_zero, List.set_cons_succ]
                    refine wpAnyH_take (i := 4) (oi := { dst := some 74, op := Go.Op.move (Go.Operand.tmp 6), type := 3, pos := "l04_accounts.go:36", after := #[{ on := 2, ground := Go.Ground.guard }], guard := some (2, false) }) (v := ?_) rfl (by kernel_rfl) (by kernel_rfl) (by kernel_rfl) (fun _ _ _ h => h) (Or.inl ⟨by rfl, ?_⟩) (by assumption) ?_
                    rotate_left
                    · (intro w hSw; (try dsimp only at hSw); go_simp <;> try with_reducible rfl)
                    try simp only [Act.put, List.setIfInBounds_toArray, List.set_cons_zero, List.set_cons_succ]
                    refine wpAnyH_take (i := 5) (oi := { dst := some 75, op := Go.Op.indexAddr 24 (Go.Operand.tmp 73) (Go.Operand.tmp 74), type := 0, pos := "l04_accounts.go:36", after := #[{ on := 3, ground := Go.Ground.data }, { on := 4, ground := Go.Ground.data }, { on := 2, ground := Go.Ground.guard }], guard := some (2, false) }) (v := ?_) rfl (by kernel_rfl) (by kernel_rfl) (by kernel_rfl) (fun _ _ _ h => h) (Or.inl ⟨by rfl, ?_⟩) (by assumption) ?_
                    rotate_left
                    · (intro w hSw; (try dsimp only at hSw); go_simp <;> try with_reducible rfl)
                    try simp only [Act.put, List.setIfInBounds_toArray, List.set_cons_zero, List.set_cons_succ]
                    refine wpAnyH_take (i := 6) (oi := { dst := some 76, op := Go.Op.fieldAddr 43 (Go.Operand.tmp 75) 2, type := 0, pos := "l04_accounts.go:36", after := #[{ on := 5, ground := Go.Ground.data }, { on := 2, ground := Go.Ground.guard }], guard := some (2, false) }) (v := ?_) rfl (by kernel_rfl) (by kernel_rfl) (by kernel_rfl) (fun _ _ _ h => h) (Or.inl ⟨by rfl, ?_⟩) (by assumption) ?_
                    rotate_left
                    · (intro w hSw; (try dsimp only at hSw); go_simp <;> try with_reducible rfl)
                    try simp only [Act.put, List.setIfInBounds_toArray, List.set_cons_zero, List.set_cons_succ]
                    refine wpAnyH_take (i := 7) (oi := { dst := some 77, op := Go.Op.load 3 (Go.Operand.tmp 76), type := 3, pos := "l04_accounts.go:36", after := #[{ on := 6, ground := Go.Ground.data }, { on := 2, ground := Go.Ground.guard }], guard := some (2, false) }) (v := ?_) rfl (by kernel_rfl) (by kernel_rfl) (by kernel_rfl) (fun _ _ _ h => h) (Or.inl ⟨by rfl, ?_⟩) (by assumption) ?_
                    rotate_left
                    · (intro w hSw; (try dsimp only at hSw); go_simp <;> try with_reducible rfl)
                    try simp only [Act.put, List.setIfInBounds_toArray, List.set_cons_zero, List.set_cons_succ]
                    refine wpAnyH_take (i := 8) (oi := { dst := some 78, op := Go.Op.fieldAddr 43 (Go.Operand.tmp 4) 2, type := 0, pos := "l04_accounts.go:36", after := #[{ on := 2, ground := Go.Ground.guard }], guard := some (2, false) }) (v := ?_) rfl (by kernel_rfl) (by kernel_rfl) (by kernel_rfl) (fun _ _ _ h => h) (Or.inl ⟨by rfl, ?_⟩) (by assumption) ?_
                    rotate_left
                    · (intro w hSw; (try dsimp only at hSw); go_simp <;> try with_reducible rfl)
                    try simp only [Act.put, List.setIfInBounds_toArray, List.set_cons_zero, List.set_cons_succ]
                    refine wpAnyH_take (i := 9) (oi := { dst := some 79, op := Go.Op.load 3 (Go.Operand.tmp 78), type := 3, pos := "l04_accounts.go:36", after := #[{ on := 8, ground := Go.Ground.data }, { on := 2, ground := Go.Ground.guard }], guard := some (2, false) }) (v := ?_) rfl (by kernel_rfl) (by kernel_rfl) (by kernel_rfl) (fun _ _ _ h => h) (Or.inl ⟨by rfl, ?_⟩) (by assumption) ?_
                    rotate_left
                    · (intro w hSw; (try dsimp only at hSw); go_simp <;> try with_reducible rfl)
                    try simp only [Act.put, List.setIfInBounds_toArray, List.set_cons_zero, List.set_cons_succ]
                    refine wpAnyH_take (i := 10) (oi := { dst := some 80, op := Go.Op.binOp Go.BinOp.neq 3 (Go.Operand.tmp 77) (Go.Operand.tmp 79) 3, type := 4, pos := "l04_accounts.go:36", after := #[{ on := 7, ground := Go.Ground.data }, { on := 9, ground := Go.Ground.data }, { on := 2, ground := Go.Ground.guard }], guard := some (2, false) }) (v := ?_) rfl (by kernel_rfl) (by kernel_rfl) (by kernel_rfl) (fun _ _ _ h => h) (Or.inl ⟨by rfl, ?_⟩) (by assumption) ?_
                    rotate_left
                    · (intro w hSw; (try dsimp only at hSw); go_simp <;> try with_reducible rfl)
                    try simp only [Act.put, List.setIfInBounds_toArray, List.set_cons_zero, List.set_cons_succ]
                    refine wpAnyH_take (i := 11) (oi := { dst := some 81, op := Go.Op.pick (Go.Operand.tmp 72) (Go.Operand.const (Go.Value.bool true)) (Go.Operand.tmp 80), type := 4, pos := "l04_accounts.go:36", after := #[{ on := 2, ground := Go.Ground.data }, { on := 10, ground := Go.Ground.data }], guard := none }) (v := ?_) rfl (by kernel_rfl) (by kernel_rfl) (by kernel_rfl) (fun _ _ _ h => h) (Or.inl ⟨by rfl, ?_⟩) (by assumption) ?_
                    rotate_left
                    · (intro w hSw; (try dsimp only at hSw); go_simp <;> try with_reducible rfl)
                    try simp only [Act.put, List.setIfInBounds_toArray, List.set_cons_zero, List.set_cons_succ]
                    refine wpAnyH_take (i := 12) (oi := { dst := some 82, op := Go.Op.move (Go.Operand.tmp 81), type := 4, pos := "l04_accounts.go:36", after := #[{ on := 11, ground := Go.Ground.data }, { on := 2, ground := Go.Ground.chain }], guard := none }) (v := ?_) rfl (by kernel_rfl) (by kernel_rfl) (by kernel_rfl) (fun _ _ _ h => h) (Or.inl ⟨by rfl, ?_⟩) (by assumption) ?_
                    rotate_left
                    · (intro w hSw; (try dsimp only at hSw); go_simp <;> try with_reducible rfl)
                    try simp only [Act.put, List.setIfInBounds_toArray, List.set_cons_zero, List.set_cons_succ]
                    refine wpAnyH_take (i := 13) (oi := { dst := some 83, op := Go.Op.move (Go.Operand.tmp 0), type := 24, pos := "l04_accounts.go:36", after := #[{ on := 12, ground := Go.Ground.guard }], guard := some (12, false) }) (v := ?_) rfl (by kernel_rfl) (by kernel_rfl) (by kernel_rfl) (fun _ _ _ h => h) (Or.inl ⟨by rfl, ?_⟩) (by assumption) ?_
                    rotate_left
                    · (intro w hSw; (try dsimp only at hSw); go_simp <;> try with_reducible rfl)
                    try simp only [Act.put, List.setIfInBounds_toArray, List.set_cons_zero, List.set_cons_succ]
                    refine wpAnyH_take (i := 14) (oi := { dst := some 84, op := Go.Op.move (Go.Operand.tmp 3), type := 3, pos := "l04_accounts.go:36", after := #[{ on := 12, ground := Go.Ground.guard }], guard := some (12, false) }) (v := ?_) rfl (by kernel_rfl) (by kernel_rfl) (by kernel_rfl) (fun _ _ _ h => h) (Or.inl ⟨by rfl, ?_⟩) (by assumption) ?_
                    rotate_left
                    · (intro w hSw; (try dsimp only at hSw); go_simp <;> try with_reducible rfl)
                    try simp only [Act.put, List.setIfInBounds_toArray, List.set_cons_zero, List.set_cons_succ]
                    refine wpAnyH_ready (rs := [15]) (by kernel_rfl) (by simp) ?_
                    refine AllReadyH.cons (o := { dst := some 85, op := Go.Op.call { callee := Go.Callee.value (Go.Operand.func 98), args := #[Go.Operand.tmp 83, Go.Operand.tmp 84], argTypes := #[24, 3] }, type := 3, pos := "l04_accounts.go:36", after := #[{ on := 13, ground := Go.Ground.data }, { on := 14, ground := Go.Ground.data }, { on := 12, ground := Go.Ground.chain }, { on := 12, ground := Go.Ground.guard }], guard := some (12, false) }) rfl (fun K hK => ?_) AllReadyH.nil
                    go_simp
                    (go_at_call 98; refine HD.out.mono ?_; rintro e w' ⟨rfl, ew⟩; replace ew := ew.symm; subst ew)
                    first | refine hK.out _ _ ?_ (fun hHeld => ?_) | (go_wp2_with fail; refine hK.out _ _ ?_ (fun hHeld => ?_))
                    · exact hHeld
                    clear hK K
                    try simp only [Act.put, List.setIfInBounds_toArray, List.set_cons_zero, List.set_cons_succ]
                    refine wpAnyH_take (i := 16) (oi := { dst := some 86, op := Go.Op.binOp Go.BinOp.gtr 3 (Go.Operand.tmp 85) (Go.Operand.const (Go.Value.int Go.IntKind.i64 8)) 3, type := 4, pos := "l04_accounts.go:36", after := #[{ on := 15, ground := Go.Ground.data }, { on := 12, ground := Go.Ground.guard }], guard := some (12, false) }) (v := ?_) rfl (by kernel_rfl) (by kernel_rfl) (by kernel_rfl) (fun _ _ _ h => h) (Or.inl ⟨by rfl, ?_⟩) (by assumption) ?_
                    rotate_left
                    · (intro w hSw; (try dsimp only at hSw); go_simp <;> try with_reducible rfl)
                    try simp only [Act.put, List.setIfInBounds_toArray, List.set_cons_zero, List.set_cons_succ]
                    refine wpAnyH_take (i := 17) (oi := { dst := some 87, op := Go.Op.pick (Go.Operand.tmp 82) (Go.Operand.const (Go.Value.bool true)) (Go.Operand.tmp 86), type := 4, pos := "l04_accounts.go:36", after := #[{ on := 12, ground := Go.Ground.data }, { on := 16, ground := Go.Ground.data }], guard := none }) (v := ?_) rfl (by kernel_rfl) (by kernel_rfl) (by kernel_rfl) (fun _ _ _ h => h) (Or.inl ⟨by rfl, ?_⟩) (by assumption) ?_
                    rotate_left
                    · (intro w hSw; (try dsimp only at hSw); go_simp <;> try with_reducible rfl)
                    try simp only [Act.put, List.setIfInBounds_toArray, List.set_cons_zero, List.set_cons_succ]
                    refine wpAnyH_done (by kernel_rfl) ?_ _
                    refine NoPanic.normal ?_
                    go_wp2
                    go_returns
                    exact ⟨ret_bool HF.out.symm, bd_N BW3.out _⟩
                  · have HOK : Hid (RightTo c (n + 1)) := HRT.out.succ (by
                      refine ⟨by rw [HA.out]; exact hA, by rw [HA.out]; exact inB_iff.1 hK, by rw [HA.out]; exact once.out, ?_, fun q => ?_, by omega⟩
                      · rw [hpar.out, ← HUP.out, upW_hit (atP_iff.2 (by omega))]; simp
                      · rw [hpar.out, HA.out, show ((t : Int)).toNat = t by omega, hkk])
                    have d8 : decide (8 < d) = false := decide_eq_false hd8
                    have hd9 : d ≤ 8 := by omega
                    clear hself hds hd hkk
                    go_wp2
                    refine wp_region_noPanic ?_
                    refine wp_region_held_drew (S := fun w' => w'.cell? ⟨kb, off + t * 3 + 2, none⟩ = some (.int .i64 a.step) ∧ w'.cell? ⟨wr.heap.size, 2, none⟩ = some (.int .i64 a.step)) (by kernel_rfl) ?_ (fun hHeld => ?_)
                    · exact ⟨x3, d2⟩
                    refine wpAnyH_take (i := 0) (oi := { dst := some 70, op := Go.Op.move (Go.Operand.tmp 6), type := 3, pos := "l04_accounts.go:36", after := #[], guard := none }) (v := ?_) rfl (by kernel_rfl) (by kernel_rfl) (by kernel_rfl) (fun _ _ _ h => h) (Or.inl ⟨by rfl, ?_⟩) (by assumption) ?_
                    rotate_left
                    · (intro w hSw; (try dsimp only at hSw); go_simp <;> try with_reducible rfl)
                    try simp only [Act.put, List.setIfInBounds_toArray, List.set_cons_zero, List.set_cons_succ]
                    refine wpAnyH_take (i := 1) (oi := { dst := some 71, op := Go.Op.binOp Go.BinOp.lss 3 (Go.Operand.tmp 70) (Go.Operand.const (Go.Value.int Go.IntKind.i64 0)) 3, type := 4, pos := "l04_accounts.go:36", after := #[{ on := 0, ground := Go.Ground.data }], guard := none }) (v := ?_) rfl (by kernel_rfl) (by kernel_rfl) (by kernel_rfl) (fun _ _ _ h => h) (Or.inl ⟨by rfl, ?_⟩) (by assumption) ?_
                    rotate_left
                    · (intro w hSw; (try dsimp only at hSw); go_simp <;> try with_reducible rfl)
                    try simp only [Act.put, List.setIfInBounds_toArray, List.set_cons_zero, List.set_cons_succ]
                    refine wpAnyH_take (i := 2) (oi := { dst := some 72, op := Go.Op.move (Go.Operand.tmp 71), type := 4, pos := "l04_accounts.go:36", after := #[{ on := 1, ground := Go.Ground.data }], guard := none }) (v := ?_) rfl (by kernel_rfl) (by kernel_rfl) (by kernel_rfl) (fun _ _ _ h => h) (Or.inl ⟨by rfl, ?_⟩) (by assumption) ?_
                    rotate_left
                    · (intro w hSw; (try dsimp only at hSw); go_simp <;> try with_reducible rfl)
                    try simp only [Act.put, List.setIfInBounds_toArray, List.set_cons_zero, List.set_cons_succ]
                    refine wpAnyH_take (i := 3) (oi := { dst := some 73, op := Go.Op.move (Go.Operand.tmp 0), type := 24, pos := "l04_accounts.go:36", after := #[{ on := 2, ground := Go.Ground.guard }], guard := some (2, false) }) (v := ?_) rfl (by kernel_rfl) (by kernel_rfl) (by kernel_rfl) (fun _ _ _ h => h) (Or.inl ⟨by rfl, ?_⟩) (by assumption) ?_
                    rotate_left
                    · (intro w hSw; (try dsimp only at hSw); go_simp <;> try with_reducible rfl)
                    try simp only [Act.put, List.setIfInBounds_toArray, List.set_cons_zero, List.set_cons_succ]
                    refine wpAnyH_take (i := 4) (oi := { dst := some 74, op := Go.Op.move (Go.Operand.tmp 6), type := 3, pos := "l04_accounts.go:36", after := #[{ on := 2, ground := Go.Ground.guard }], guard := some (2, false) }) (v := ?_) rfl (by kernel_rfl) (by kernel_rfl) (by kernel_rfl) (fun _ _ _ h => h) (Or.inl ⟨by rfl, ?_⟩) (by assumption) ?_
                    rotate_left
                    · (intro w hSw; (try dsimp only at hSw); go_simp <;> try with_reducible rfl)
                    try simp only [Act.put, List.setIfInBounds_toArray, List.set_cons_zero, List.set_cons_succ]
                    refine wpAnyH_take (i := 5) (oi := { dst := some 75, op := Go.Op.indexAddr 24 (Go.Operand.tmp 73) (Go.Operand.tmp 74), type := 0, pos := "l04_accounts.go:36", after := #[{ on := 3, ground := Go.Ground.data }, { on := 4, ground := Go.Ground.data }, { on := 2, ground := Go.Ground.guard }], guard := some (2, false) }) (v := ?_) rfl (by kernel_rfl) (by kernel_rfl) (by kernel_rfl) (fun _ _ _ h => h) (Or.inl ⟨by rfl, ?_⟩) (by assumption) ?_
                    rotate_left
                    · (intro w hSw; (try dsimp only at hSw); go_simp <;> try with_reducible rfl)
                    try simp only [Act.put, List.setIfInBounds_toArray, List.set_cons_zero, List.set_cons_succ]
                    refine wpAnyH_take (i := 6) (oi := { dst := some 76, op := Go.Op.fieldAddr 43 (Go.Operand.tmp 75) 2, type := 0, pos := "l04_accounts.go:36", after := #[{ on := 5, ground := Go.Ground.data }, { on := 2, ground := Go.Ground.guard }], guard := some (2, false) }) (v := ?_) rfl (by kernel_rfl) (by kernel_rfl) (by kernel_rfl) (fun _ _ _ h => h) (Or.inl ⟨by rfl, ?_⟩) (by assumption) ?_
                    rotate_left
                    · (intro w hSw; (try dsimp only at hSw); go_simp <;> try with_reducible rfl)
                    try simp only [Act.put, List.setIfInBounds_toArray, List.set_cons_zero, List.set_cons_succ]
                    refine wpAnyH_take (i := 7) (oi := { dst := some 77, op := Go.Op.load 3 (Go.Operand.tmp 76), type := 3, pos := "l04_accounts.go:36", after := #[{ on := 6, ground := Go.Ground.data }, { on := 2, ground := Go.Ground.guard }], guard := some (2, false) }) (v := ?_) rfl (by kernel_rfl) (by kernel_rfl) (by kernel_rfl) (fun _ _ _ h => h) (Or.inl ⟨by rfl, ?_⟩) (by assumption) ?_
                    rotate_left
                    · (intro w hSw; (try dsimp only at hSw); go_simp <;> try with_reducible rfl)
                    try simp only [Act.put, List.setIfInBounds_toArray, List.set_cons_zero, List.set_cons_succ]
                    refine wpAnyH_take (i := 8) (oi := { dst := some 78, op := Go.Op.fieldAddr 43 (Go.Operand.tmp 4) 2, type := 0, pos := "l04_accounts.go:36", after := #[{ on := 2, ground := Go.Ground.guard }], guard := some (2, false) }) (v := ?_) rfl (by kernel_rfl) (by kernel_rfl) (by kernel_rfl) (fun _ _ _ h => h) (Or.inl ⟨by rfl, ?_⟩) (by assumption) ?_
                    rotate_left
                    · (intro w hSw; (try dsimp only at hSw); go_simp <;> try with_reducible rfl)
                    try simp only [Act.put, List.setIfInBounds_toArray, List.set_cons_zero, List.set_cons_succ]
                    refine wpAnyH_take (i := 9) (oi := { dst := some 79, op := Go.Op.load 3 (Go.Operand.tmp 78), type := 3, pos := "l04_accounts.go:36", after := #[{ on := 8, ground := Go.Ground.data }, { on := 2, ground := Go.Ground.guard }], guard := some (2, false) }) (v := ?_) rfl (by kernel_rfl) (by kernel_rfl) (by kernel_rfl) (fun _ _ _ h => h) (Or.inl ⟨by rfl, ?_⟩) (by assumption) ?_
                    rotate_left
                    · (intro w hSw; (try dsimp only at hSw); go_simp <;> try with_reducible rfl)
                    try simp only [Act.put, List.setIfInBounds_toArray, List.set_cons_zero, List.set_cons_succ]
                    refine wpAnyH_take (i := 10) (oi := { dst := some 80, op := Go.Op.binOp Go.BinOp.neq 3 (Go.Operand.tmp 77) (Go.Operand.tmp 79) 3, type := 4, pos := "l04_accounts.go:36", after := #[{ on := 7, ground := Go.Ground.data }, { on := 9, ground := Go.Ground.data }, { on := 2, ground := Go.Ground.guard }], guard := some (2, false) }) (v := ?_) rfl (by kernel_rfl) (by kernel_rfl) (by kernel_rfl) (fun _ _ _ h => h) (Or.inl ⟨by rfl, ?_⟩) (by assumption) ?_
                    rotate_left
                    · (intro w hSw; (try dsimp only at hSw); go_simp <;> try with_reducible rfl)
                    try simp only [Act.put, List.setIfInBounds_toArray, List.set_cons_zero, List.set_cons_succ]
                    refine wpAnyH_take (i := 11) (oi := { dst := some 81, op := Go.Op.pick (Go.Operand.tmp 72) (Go.Operand.const (Go.Value.bool true)) (Go.Operand.tmp 80), type := 4, pos := "l04_accounts.go:36", after := #[{ on := 2, ground := Go.Ground.data }, { on := 10, ground := Go.Ground.data }], guard := none }) (v := ?_) rfl (by kernel_rfl) (by kernel_rfl) (by kernel_rfl) (fun _ _ _ h => h) (Or.inl ⟨by rfl, ?_⟩) (by assumption) ?_
                    rotate_left
                    · (intro w hSw; (try dsimp only at hSw); go_simp <;> try with_reducible rfl)
                    try simp only [Act.put, List.setIfInBounds_toArray, List.set_cons_zero, List.set_cons_succ]
                    refine wpAnyH_take (i := 12) (oi := { dst := some 82, op := Go.Op.move (Go.Operand.tmp 81), type := 4, pos := "l04_accounts.go:36", after := #[{ on := 11, ground := Go.Ground.data }, { on := 2, ground := Go.Ground.chain }], guard := none }) (v := ?_) rfl (by kernel_rfl) (by kernel_rfl) (by kernel_rfl) (fun _ _ _ h => h) (Or.inl ⟨by rfl, ?_⟩) (by assumption) ?_
                    rotate_left
                    · (intro w hSw; (try dsimp only at hSw); go_simp <;> try with_reducible rfl)
                    try simp only [Act.put, List.setIfInBounds_toArray, List.set_cons_zero, List.set_cons_succ]
                    refine wpAnyH_take (i := 13) (oi := { dst := some 83, op := Go.Op.move (Go.Operand.tmp 0), type := 24, pos := "l04_accounts.go:36", after := #[{ on := 12, ground := Go.Ground.guard }], guard := some (12, false) }) (v := ?_) rfl (by kernel_rfl) (by kernel_rfl) (by kernel_rfl) (fun _ _ _ h => h) (Or.inl ⟨by rfl, ?_⟩) (by assumption) ?_
                    rotate_left
                    · (intro w hSw; (try dsimp only at hSw); go_simp <;> try with_reducible rfl)
                    try simp only [Act.put, List.setIfInBounds_toArray, List.set_cons_zero, List.set_cons_succ]
                    refine wpAnyH_take (i := 14) (oi := { dst := some 84, op := Go.Op.move (Go.Operand.tmp 3), type := 3, pos := "l04_accounts.go:36", after := #[{ on := 12, ground := Go.Ground.guard }], guard := some (12, false) }) (v := ?_) rfl (by kernel_rfl) (by kernel_rfl) (by kernel_rfl) (fun _ _ _ h => h) (Or.inl ⟨by rfl, ?_⟩) (by assumption) ?_
                    rotate_left
                    · (intro w hSw; (try dsimp only at hSw); go_simp <;> try with_reducible rfl)
                    try simp only [Act.put, List.setIfInBounds_toArray, List.set_cons_zero, List.set_cons_succ]
                    refine wpAnyH_ready (rs := [15]) (by kernel_rfl) (by simp) ?_
                    refine AllReadyH.cons (o := { dst := some 85, op := Go.Op.call { callee := Go.Callee.value (Go.Operand.func 98), args := #[Go.Operand.tmp 83, Go.Operand.tmp 84], argTypes := #[24, 3] }, type := 3, pos := "l04_accounts.go:36", after := #[{ on := 13, ground := Go.Ground.data }, { on := 14, ground := Go.Ground.data }, { on := 12, ground := Go.Ground.chain }, { on := 12, ground := Go.Ground.guard }], guard := some (12, false) }) rfl (fun K hK => ?_) AllReadyH.nil
                    go_simp
                    (go_at_call 98; refine HD.out.mono ?_; rintro e w' ⟨rfl, ew⟩; replace ew := ew.symm; subst ew)
                    first | refine hK.out _ _ ?_ (fun hHeld => ?_) | (go_wp2_with fail; refine hK.out _ _ ?_ (fun hHeld => ?_))
                    · exact hHeld
                    clear hK K
                    try simp only [Act.put, List.setIfInBounds_toArray, List.set_cons_zero, List.set_cons_succ]
                    refine wpAnyH_take (i := 16) (oi := { dst := some 86, op := Go.Op.binOp Go.BinOp.gtr 3 (Go.Operand.tmp 85) (Go.Operand.const (Go.Value.int Go.IntKind.i64 8)) 3, type := 4, pos := "l04_accounts.go:36", after := #[{ on := 15, ground := Go.Ground.data }, { on := 12, ground := Go.Ground.guard }], guard := some (12, false) }) (v := ?_) rfl (by kernel_rfl) (by kernel_rfl) (by kernel_rfl) (fun _ _ _ h => h) (Or.inl ⟨by rfl, ?_⟩) (by assumption) ?_
                    rotate_left
                    · (intro w hSw; (try dsimp only at hSw); go_simp <;> try with_reducible rfl)
                    try simp only [Act.put, List.setIfInBounds_toArray, List.set_cons_zero, List.set_cons_succ]
                    refine wpAnyH_take (i := 17) (oi := { dst := some 87, op := Go.Op.pick (Go.Operand.tmp 82) (Go.Operand.const (Go.Value.bool true)) (Go.Operand.tmp 86), type := 4, pos := "l04_accounts.go:36", after := #[{ on := 12, ground := Go.Ground.data }, { on := 16, ground := Go.Ground.data }], guard := none }) (v := ?_) rfl (by kernel_rfl) (by kernel_rfl) (by kernel_rfl) (fun _ _ _ h => h) (Or.inl ⟨by rfl, ?_⟩) (by assumption) ?_
                    rotate_left
                    · (intro w hSw; (try dsimp only at hSw); go_simp <;> try with_reducible rfl)
                    try simp only [Act.put, List.setIfInBounds_toArray, List.set_cons_zero, List.set_cons_succ]
                    refine wpAnyH_done (by kernel_rfl) ?_ _
                    refine NoPanic.normal ?_
                    go_wp2
                    go_roundw
                    case rel => exact ⟨n + 1, by omega, by go_num, HOK.out, bd_N BW3.out _⟩
                    case measure => simp [intOf]; omega
                · have e1 := eq_f hke
                  have e2 : (kk != a.step) = true := by simp [bne, e1]
                  have e3 : (!(kk == a.step)) = true := by simp [e1]
                  have e4 : decide (kk = a.step) = false := decide_eq_false hke
                  have HF : Hid (chartB len c = false) := chartB_bad hlt fun H => by
                    have := H.same (by rw [hpar.out]; omega)
                    rw [hpar.out, HA.out, show ((t : Int)).toNat = t by omega, hkk] at this
                    exact hke this
                  clear hke hkk
                  go_wp2
                  refine wp_region_noPanic ?_
                  refine wp_region_held_drew (S := fun w' => w'.cell? ⟨kb, off + t * 3 + 2, none⟩ = some (.int .i64 kk) ∧ w'.cell? ⟨wr.heap.size, 2, none⟩ = some (.int .i64 a.step)) (by kernel_rfl) ?_ (fun hHeld => ?_)
                  · exact ⟨x3, d2⟩
                  refine wpAnyH_take (i := 0) (oi := { dst := some 70, op := Go.Op.move (Go.Operand.tmp 6), type := 3, pos := "l04_accounts.go:36", after := #[], guard := none }) (v := ?_) rfl (by kernel_rfl) (by kernel_rfl) (by kernel_rfl) (fun _ _ _ h => h) (Or.inl ⟨by rfl, ?_⟩) (by assumption) ?_
                  rotate_left
                  · (intro w hSw; (try dsimp only at hSw); go_simp <;> try with_reducible rfl)
                  try simp only [Act.put, List.setIfInBounds_toArray, List.set_cons_zero, List.set_cons_succ]
                  refine wpAnyH_take (i := 1) (oi := { dst := some 71, op := Go.Op.binOp Go.BinOp.lss 3 (Go.Operand.tmp 70) (Go.Operand.const (Go.Value.int Go.IntKind.i64 0)) 3, type := 4, pos := "l04_accounts.go:36", after := #[{ on := 0, ground := Go.Ground.data }], guard := none }) (v := ?_) rfl (by kernel_rfl) (by kernel_rfl) (by kernel_rfl) (fun _ _ _ h => h) (Or.inl ⟨by rfl, ?_⟩) (by assumption) ?_
                  rotate_left
                  · (intro w hSw; (try dsimp only at hSw); go_simp <;> try with_reducible rfl)
                  try simp only [Act.put, List.setIfInBounds_toArray, List.set_cons_zero, List.set_cons_succ]
                  refine wpAnyH_take (i := 2) (oi := { dst := some 72, op := Go.Op.move (Go.Operand.tmp 71), type := 4, pos := "l04_accounts.go:36", after := #[{ on := 1, ground := Go.Ground.data }], guard := none }) (v := ?_) rfl (by kernel_rfl) (by kernel_rfl) (by kernel_rfl) (fun _ _ _ h => h) (Or.inl ⟨by rfl, ?_⟩) (by assumption) ?_
                  rotate_left
                  · (intro w hSw; (try dsimp only at hSw); go_simp <;> try with_reducible rfl)
                  try simp only [Act.put, List.setIfInBounds_toArray, List.set_cons_zero, List.set_cons_succ]
                  refine wpAnyH_take (i := 3) (oi := { dst := some 73, op := Go.Op.move (Go.Operand.tmp 0), type := 24, pos := "l04_accounts.go:36", after := #[{ on := 2, ground := Go.Ground.guard }], guard := some (2, false) }) (v := ?_) rfl (by kernel_rfl) (by kernel_rfl) (by kernel_rfl) (fun _ _ _ h => h) (Or.inl ⟨by rfl, ?_⟩) (by assumption) ?_
                  rotate_left
                  · (intro w hSw; (try dsimp only at hSw); go_simp <;> try with_reducible rfl)
                  try simp only [Act.put, List.setIfInBounds_toArray, List.set_cons_zero, List.set_cons_succ]
                  refine wpAnyH_take (i := 4) (oi := { dst := some 74, op := Go.Op.move (Go.Operand.tmp 6), type := 3, pos := "l04_accounts.go:36", after := #[{ on := 2, ground := Go.Ground.guard }], guard := some (2, false) }) (v := ?_) rfl (by kernel_rfl) (by kernel_rfl) (by kernel_rfl) (fun _ _ _ h => h) (Or.inl ⟨by rfl, ?_⟩) (by assumption) ?_
                  rotate_left
                  · (intro w hSw; (try dsimp only at hSw); go_simp <;> try with_reducible rfl)
                  try simp only [Act.put, List.setIfInBounds_toArray, List.set_cons_zero, List.set_cons_succ]
                  refine wpAnyH_take (i := 5) (oi := { dst := some 75, op := Go.Op.indexAddr 24 (Go.Operand.tmp 73) (Go.Operand.tmp 74), type := 0, pos := "l04_accounts.go:36", after := #[{ on := 3, ground := Go.Ground.data }, { on := 4, ground := Go.Ground.data }, { on := 2, ground := Go.Ground.guard }], guard := some (2, false) }) (v := ?_) rfl (by kernel_rfl) (by kernel_rfl) (by kernel_rfl) (fun _ _ _ h => h) (Or.inl ⟨by rfl, ?_⟩) (by assumption) ?_
                  rotate_left
                  · (intro w hSw; (try dsimp only at hSw); go_simp <;> try with_reducible rfl)
                  try simp only [Act.put, List.setIfInBounds_toArray, List.set_cons_zero, List.set_cons_succ]
                  refine wpAnyH_take (i := 6) (oi := { dst := some 76, op := Go.Op.fieldAddr 43 (Go.Operand.tmp 75) 2, type := 0, pos := "l04_accounts.go:36", after := #[{ on := 5, ground := Go.Ground.data }, { on := 2, ground := Go.Ground.guard }], guard := some (2, false) }) (v := ?_) rfl (by kernel_rfl) (by kernel_rfl) (by kernel_rfl) (fun _ _ _ h => h) (Or.inl ⟨by rfl, ?_⟩) (by assumption) ?_
                  rotate_left
                  · (intro w hSw; (try dsimp only at hSw); go_simp <;> try with_reducible rfl)
                  try simp only [Act.put, List.setIfInBounds_toArray, List.set_cons_zero, List.set_cons_succ]
                  refine wpAnyH_take (i := 7) (oi := { dst := some 77, op := Go.Op.load 3 (Go.Operand.tmp 76), type := 3, pos := "l04_accounts.go:36", after := #[{ on := 6, ground := Go.Ground.data }, { on := 2, ground := Go.Ground.guard }], guard := some (2, false) }) (v := ?_) rfl (by kernel_rfl) (by kernel_rfl) (by kernel_rfl) (fun _ _ _ h => h) (Or.inl ⟨by rfl, ?_⟩) (by assumption) ?_
                  rotate_left
                  · (intro w hSw; (try dsimp only at hSw); go_simp <;> try with_reducible rfl)
                  try simp only [Act.put, List.setIfInBounds_toArray, List.set_cons_zero, List.set_cons_succ]
                  refine wpAnyH_take (i := 8) (oi := { dst := some 78, op := Go.Op.fieldAddr 43 (Go.Operand.tmp 4) 2, type := 0, pos := "l04_accounts.go:36", after := #[{ on := 2, ground := Go.Ground.guard }], guard := some (2, false) }) (v := ?_) rfl (by kernel_rfl) (by kernel_rfl) (by kernel_rfl) (fun _ _ _ h => h) (Or.inl ⟨by rfl, ?_⟩) (by assumption) ?_
                  rotate_left
                  · (intro w hSw; (try dsimp only at hSw); go_simp <;> try with_reducible rfl)
                  try simp only [Act.put, List.setIfInBounds_toArray, List.set_cons_zero, List.set_cons_succ]
                  refine wpAnyH_take (i := 9) (oi := { dst := some 79, op := Go.Op.load 3 (Go.Operand.tmp 78), type := 3, pos := "l04_accounts.go:36", after := #[{ on := 8, ground := Go.Ground.data }, { on := 2, ground := Go.Ground.guard }], guard := some (2, false) }) (v := ?_) rfl (by kernel_rfl) (by kernel_rfl) (by kernel_rfl) (fun _ _ _ h => h) (Or.inl ⟨by rfl, ?_⟩) (by assumption) ?_
                  rotate_left
                  · (intro w hSw; (try dsimp only at hSw); go_simp <;> try with_reducible rfl)
                  try simp only [Act.put, List.setIfInBounds_toArray, List.set_cons_zero, List.set_cons_succ]
                  refine wpAnyH_take (i := 10) (oi := { dst := some 80, op := Go.Op.binOp Go.BinOp.neq 3 (Go.Operand.tmp 77) (Go.Operand.tmp 79) 3, type := 4, pos := "l04_accounts.go:36", after := #[{ on := 7, ground := Go.Ground.data }, { on := 9, ground := Go.Ground.data }, { on := 2, ground := Go.Ground.guard }], guard := some (2, false) }) (v := ?_) rfl (by kernel_rfl) (by kernel_rfl) (by kernel_rfl) (fun _ _ _ h => h) (Or.inl ⟨by rfl, ?_⟩) (by assumption) ?_
                  rotate_left
                  · (intro w hSw; (try dsimp only at hSw); go_simp <;> try with_reducible rfl)
                  try simp only [Act.put, List.setIfInBounds_toArray, List.set_cons_zero, List.set_cons_succ]
                  refine wpAnyH_take (i := 11) (oi := { dst := some 81, op := Go.Op.pick (Go.Operand.tmp 72) (Go.Operand.const (Go.Value.bool true)) (Go.Operand.tmp 80), type := 4, pos := "l04_accounts.go:36", after := #[{ on := 2, ground := Go.Ground.data }, { on := 10, ground := Go.Ground.data }], guard := none }) (v := ?_) rfl (by kernel_rfl) (by kernel_rfl) (by kernel_rfl) (fun _ _ _ h => h) (Or.inl ⟨by rfl, ?_⟩) (by assumption) ?_
                  rotate_left
                  · (intro w hSw; (try dsimp only at hSw); go_simp <;> try with_reducible rfl)
                  try simp only [Act.put, List.setIfInBounds_toArray, List.set_cons_zero, List.set_cons_succ]
                  refine wpAnyH_take (i := 12) (oi := { dst := some 82, op := Go.Op.move (Go.Operand.tmp 81), type := 4, pos := "l04_accounts.go:36", after := #[{ on := 11, ground := Go.Ground.data }, { on := 2, ground := Go.Ground.chain }], guard := none }) (v := ?_) rfl (by kernel_rfl) (by kernel_rfl) (by kernel_rfl) (fun _ _ _ h => h) (Or.inl ⟨by rfl, ?_⟩) (by assumption) ?_
                  rotate_left
                  · (intro w hSw; (try dsimp only at hSw); go_simp <;> try with_reducible rfl)
                  try simp only [Act.put, List.setIfInBounds_toArray, List.set_cons_zero, List.set_cons_succ]
                  refine wpAnyH_take (i := 13) (oi := { dst := some 83, op := Go.Op.move (Go.Operand.tmp 0), type := 24, pos := "l04_accounts.go:36", after := #[{ on := 12, ground := Go.Ground.guard }], guard := some (12, false) }) (v := undef) rfl (by kernel_rfl) (by kernel_rfl) (by kernel_rfl) (fun _ _ _ h => h) (Or.inr ⟨by rfl, rfl⟩) (by assumption) ?_
                  try simp only [Act.put, List.setIfInBounds_toArray, List.set_cons_zero, List.set_cons_succ]
                  refine wpAnyH_take (i := 14) (oi := { dst := some 84, op := Go.Op.move (Go.Operand.tmp 3), type := 3, pos := "l04_accounts.go:36", after := #[{ on := 12, ground := Go.Ground.guard }], guard := some (12, false) }) (v := undef) rfl (by kernel_rfl) (by kernel_rfl) (by kernel_rfl) (fun _ _ _ h => h) (Or.inr ⟨by rfl, rfl⟩) (by assumption) ?_
                  try simp only [Act.put, List.setIfInBounds_toArray, List.set_cons_zero, List.set_cons_succ]
                  refine wpAnyH_take (i := 15) (oi := { dst := some 85, op := Go.Op.call { callee := Go.Callee.value (Go.Operand.func 98), args := #[Go.Operand.tmp 83, Go.Operand.tmp 84], argTypes := #[24, 3] }, type := 3, pos := "l04_accounts.go:36", after := #[{ on := 13, ground := Go.Ground.data }, { on := 14, ground := Go.Ground.data }, { on := 12, ground := Go.Ground.chain }, { on := 12, ground := Go.Ground.guard }], guard := some (12, false) }) (v := undef) rfl (by kernel_rfl) (by kernel_rfl) (by kernel_rfl) (fun _ _ _ h => h) (Or.inr ⟨by rfl, rfl⟩) (by assumption) ?_
                  try simp only [Act.put, List.setIfInBounds_toArray, List.set_cons_zero, List.set_cons_succ]
                  refine wpAnyH_take (i := 16) (oi := { dst := some 86, op := Go.Op.binOp Go.BinOp.gtr 3 (Go.Operand.tmp 85) (Go.Operand.const (Go.Value.int Go.IntKind.i64 8)) 3, type := 4, pos := "l04_accounts.go:36", after := #[{ on := 15, ground := Go.Ground.data }, { on := 12, ground := Go.Ground.guard }], guard := some (12, false) }) (v := undef) rfl (by kernel_rfl) (by kernel_rfl) (by kernel_rfl) (fun _ _ _ h => h) (Or.inr ⟨by rfl, rfl⟩) (by assumption) ?_
                  try simp only [Act.put, List.setIfInBounds_toArray, List.set_cons_zero, List.set_cons_succ]
                  refine wpAnyH_take (i := 17) (oi := { dst := some 87, op := Go.Op.pick (Go.Operand.tmp 82) (Go.Operand.const (Go.Value.bool true)) (Go.Operand.tmp 86), type := 4, pos := "l04_accounts.go:36", after := #[{ on := 12, ground := Go.Ground.data }, { on := 16, ground := Go.Ground.data }], guard := none }) (v := ?_) rfl (by kernel_rfl) (by kernel_rfl) (by kernel_rfl) (fun _ _ _ h => h) (Or.inl ⟨by rfl, ?_⟩) (by assumption) ?_
                  rotate_left
                  · (intro w hSw; (try dsimp only at hSw); go_simp <;> try with_reducible rfl)
                  try simp only [Act.put, List.setIfInBounds_toArray, List.set_cons_zero, List.set_cons_succ]
                  refine wpAnyH_done (by kernel_rfl) ?_ _
                  refine NoPanic.normal ?_
                  go_wp2
                  go_returns
                  exact ⟨ret_bool HF.out.symm, bd_N BW3.out _⟩
              · have e1 : ((t : Int) == (p : Int)) = false := eq_f (by omega)
                have hlo := HLW.out t (by omega)
                have hup2 : upW (par c) (atP (p : Int)) (par c t + 1).toNat = upW (par c) (atP (p : Int)) n := by
                  rw [← hup]
                  exact (upW_step HLW.out (by omega) (by cases e : atP (p : Int) (t + 1) with | false => rfl | true => have := atP_iff.1 e; omega)).symm
                have hpt : (c t).places = par c t := rfl
                rw [hpt] at x2
                generalize par c t = y at x2 hlo hup2
                clear hup
                go_wp2
                go_round
                case rel => exact ⟨(y + 1).toNat, y, rfl, by omega, by omega, hup2⟩
                case measure => simp [intOf]; omega

end Go.Proofs.YtapailihjlfkgaaDoor
