/- The best of four orders: plain, and the model's. -/
import Derived.Test.YtogolmbgboihdaaRc
import Derived.Test.YtogolmbgboihdaaGa
import Derived.Test.YtogolmbgboihdaaLh
import Derived.Test.YtogolmbgboihdaaLi
namespace Go.Proofs.Ytogolmbgboihdaa
open Go Go.ChangeShapes Go.WideShapes Go.ChangeAt Go.RowKit
set_option linter.unusedVariables false
set_option linter.unusedSimpArgs false

theorem AQ.room {w W : World} {g k oc : Nat} {z : Nat → Int} (h : AQ w g k oc z W) : k ≤ oc := by
  rcases h.own.2 with ⟨e, _⟩ | ⟨g1, cap, cur, e, _, _, h1, _⟩
  · simp at e
  · simp only [Value.slice.injEq] at e
    obtain ⟨_, _, rfl⟩ := e
    exact h1
set_option maxRecDepth 20000 in
set_option maxHeartbeats 8000000 in
theorem specRank_room (ja : Option Addr) (n jk : Nat) (d : Nat → JB) (rule : Int) (w : World) (hm : (n : Int) ≤ 1048576) (hl : ∀ j, j < n → ((d j).rn : Int) ≤ 1048576) (hJ : JBr w ja n d) :
    Calls Try.prog 42 #[.slice ja n jk, .int .i64 rule] w fun e w' => ∃ ad cap, e = .returned (.slice ad (rkM d rule n) cap) ∧ OwnI w' w.heap.size ad (rkM d rule n) (rkF d rule n) ∧ Below w.heap.size w w' ∧ rkM d rule n ≤ cap := by
  have HJ0 : Hid (JBr w ja n d) := hJ
  have HN : Hid (∀ j, j < n → ((d j).rn : Int) ≤ 1048576) := hl
  have HBL : Hid (Below w.heap.size w (w.alloc (.cells #[] 3))) := (Below.refl _ _).alloc (Nat.le_refl _) _
  clear hJ hl
  cases h1 : inB rule 1 4
  · have HV := hid (rkM_n (d := d) (rule := rule) (n := n) fun H => by have := H.1; have := inB_f h1; omega)
    have HO : Hid (∀ W a, OwnI W w.heap.size a 0 (rkF d rule n)) := hid fun W a => .inl rfl
    simp only [HV.out]
    go_enter Try.func42, Try.ntmps42
    go_wp2_with (go_at_call 66; refine (l1In_any _ _ _ _).mono ?_; rintro e wh ⟨rfl, ew⟩; replace ew := ew.symm; subst ew)
    go_returns
    first | exact ⟨_, _, rfl, HO.out _ _, HBL.out, Nat.zero_le _⟩ | exact ⟨_, ⟨_, rfl⟩, HO.out _ _, HBL.out, Nat.zero_le _⟩
  have hr4 := inB_t h1
  cases h3 : arG jbB 40 n d
  · have HV := hid (rkM_n (d := d) (rule := rule) (n := n) fun H => by rw [arG_t H.2] at h3; cases h3)
    have HO : Hid (∀ W a, OwnI W w.heap.size a 0 (rkF d rule n)) := hid fun W a => .inl rfl
    have HA : Hid (arG jbB 40 n d = false) := h3
    clear h3
    simp only [HV.out]
    go_enter Try.func42, Try.ntmps42
    go_wp2_with (first | (go_at_call 66; refine (l1In_any _ _ _ _).mono ?_; rintro e wh ⟨rfl, ew⟩; replace ew := ew.symm; subst ew) | (go_at_call 67; refine (l19Jobs_eq ja n jk d _ _ hm HN.out (HJ0.out.below HBL.out) HA.out).mono ?_; rintro e w1 ⟨rfl, b1⟩; have HB1 : Hid (Below w.heap.size w w1) := bel_on HBL.out b1; clear b1))
    go_returns
    first | exact ⟨_, _, rfl, HO.out _ _, HB1.out, Nat.zero_le _⟩ | exact ⟨_, ⟨_, rfl⟩, HO.out _ _, HB1.out, Nat.zero_le _⟩
  have HR : Hid (RkOk d rule n) := ⟨⟨by omega, by omega⟩, arG_p h3⟩
  have HV := hid (rkM_y HR.out)
  have HA : Hid (arG jbB 40 n d = true) := h3
  have hn40 : (n : Int) ≤ 40 := by have := (arG_p h3).1; omega
  have HJB : Hid (∀ j, j < n → jbB (d j) = true) := HR.out.2.2
  have HST : Hid (AQ w w.heap.size 0 0 (fun _ => 0) (w.alloc (.cells #[] 3))) := AQ.start w _
  clear h3
  simp only [HV.out]
  obtain ⟨i3, hi3, hz30, hz31, hz32⟩ := info3
  go_enter Try.func42, Try.ntmps42
  go_wp2_with (first | (go_at_call 66; refine (l1In_any _ _ _ _).mono ?_; rintro e wh ⟨rfl, ew⟩; replace ew := ew.symm; subst ew) | (go_at_call 67; refine (l19Jobs_eq ja n jk d _ _ hm HN.out (HJ0.out.below HBL.out) HA.out).mono ?_; rintro e w1 ⟨rfl, b1⟩; have HB1 : Hid (Below w.heap.size w w1) := bel_on HBL.out b1; have HS1 := hid (HST.out.below b1); clear b1))
  go_loopw [5] (fun v wr => ∃ (k g oc : Nat) (z : Nat → Int), k ≤ n ∧ v = .slice (some ⟨g, 0, none⟩) k oc ∧ Hid (AQ w g k oc z wr) ∧ Hid (∀ j, j < k → IsNx d rule n z j)) (fun v _ => n - (match v with | .slice _ k _ => k | _ => 0))
  case atStart => exact ⟨0, w.heap.size, 0, fun _ => 0, Nat.zero_le _, rfl, HS1, fun j hj => by omega⟩
  case round =>
    obtain ⟨k, g, oc, z, hk, rfl, HH, HX⟩ := hrel
    by_cases hlt : k < n
    · have hlt2 : (k : Int) < (n : Int) := by omega
      go_wp2
      go_loopw [6, 7] (fun v i wr => ∃ (q : Nat) (b : Int), q ≤ n ∧ i = .int .i64 (q : Int) ∧ v = .int .i64 b ∧ Hid (BsP d rule z k q b) ∧ Hid (AQ w g k oc z wr)) (fun _ i _ => n - (intOf i).toNat)
      case atStart => exact ⟨0, -1, Nat.zero_le _, rfl, rfl, .inl ⟨rfl, fun i hi => by omega⟩, HH⟩
      case round =>
        obtain ⟨q, b, hq, rfl, rfl, HB, HQ⟩ := hrel
        obtain ⟨wi, rfl⟩ : ∃ x, x = wr := ⟨wr, rfl⟩
        by_cases hqt : q < n
        · have hqt2 : (q : Int) < (n : Int) := by omega
          cases hh : hasB z (q : Int) k
          · have HHS : Hid (∀ W, AQ w g k oc z W → Calls Try.prog 80 #[.slice (some ⟨g, 0, none⟩) k oc, .int .i64 (q : Int)] W fun e w' => e = .returned (.bool false) ∧ w' = W) := hid fun W h => l7Has_eq _ k oc z (q : Int) false W (by omega) h.row hh
            by_cases hb : b < 0
            · have HN2 : Hid (BsP d rule z k (q + 1) (q : Int)) := hid (bs_fst HB.out hb hh)
              have hdb : decide (b < 0) = true := decide_eq_true hb
              clear hh
              go_wp2
              go_quiet (first | (go_at_call 80; exact Calls.quiet_of_same (HHS.out _ (HQ.out.below (bd_N (Below.refl _ _) _)))))
              have HQ2 : Hid (AQ w g k oc z (wi.drewN nq)) := hid (HQ.out.below (bd_N (Below.refl _ _) _))
              generalize wi.drewN nq = W5 at HQ2 ⊢
              go_wp2
              go_roundw
              case rel => exact ⟨q + 1, (q : Int), by omega, by go_num, rfl, HN2, HQ2⟩
              case measure => simp [intOf]; omega
            · have hb0 : 0 ≤ b := by omega
              have hbq : b < (q : Int) := by
                rcases HB.out with ⟨h1, _⟩ | ⟨_, h2, _⟩
                · omega
                · exact h2
              obtain ⟨bn, hbn⟩ : ∃ bn : Nat, (bn : Int) = b := ⟨b.toNat, by omega⟩
              subst hbn
              have hdb : decide ((bn : Int) < 0) = false := decide_eq_false hb
              have hbn2 : bn < n := by omega
              have hbn3 : (bn : Int) < (n : Int) := by omega
              obtain ⟨kb, off, rfl, hkb⟩ := HJ0.out.addr (by omega)
              obtain ⟨xa, xc, _, c0, c1, c2, c3, c4⟩ := HJ0.out.cell hqt
              replace c0 := keep_cell HQ.out.bel c0
              replace c1 := keep_cell HQ.out.bel c1
              replace c2 := keep_cell HQ.out.bel c2
              replace c3 := keep_cell HQ.out.bel c3
              obtain ⟨ya, yc, _, e0, e1, e2, e3, e4⟩ := HJ0.out.cell hbn2
              replace e0 := keep_cell HQ.out.bel e0
              replace e1 := keep_cell HQ.out.bel e1
              replace e2 := keep_cell HQ.out.bel e2
              replace e3 := keep_cell HQ.out.bel e3
              obtain ⟨U, hU⟩ : ∃ U, keyV (d q) rule = U := ⟨_, rfl⟩
              obtain ⟨V, hV⟩ : ∃ V, keyV (d bn) rule = V := ⟨_, rfl⟩
              have HUV : Hid (keyV (d q) rule = U ∧ keyV (d bn) rule = V) := ⟨hU, hV⟩
              have HTQ : Hid (TKr w xa (d q).rn (d q).rz ∧ TKr w ya (d bn).rn (d bn).rz) := ⟨c4, e4⟩
              have HKQ : Hid (∀ W, Below w.heap.size w W → Calls Try.prog 81 #[.agg #[.int .i64 (d q).rdy, .int .i64 (d q).due, .int .i64 (d q).wgt, .slice xa (d q).rn xc], .int .i64 rule] W fun e w' => e = .returned (.int .i64 U) ∧ Below W.heap.size W w') := hid fun W h => l19Key_eq (d q) xa xc rule U W (HJB.out q hqt) (HTQ.out.1.below h) hr4 HUV.out.1
              have HKB : Hid (∀ W, Below w.heap.size w W → Calls Try.prog 81 #[.agg #[.int .i64 (d bn).rdy, .int .i64 (d bn).due, .int .i64 (d bn).wgt, .slice ya (d bn).rn yc], .int .i64 rule] W fun e w' => e = .returned (.int .i64 V) ∧ Below W.heap.size W w') := hid fun W h => l19Key_eq (d bn) ya yc rule V W (HJB.out bn hbn2) (HTQ.out.2.below h) hr4 HUV.out.2
              have HH0 : Hid (hasB z (q : Int) k = false) := hh
              clear hU hV c4 e4 hh
              generalize (d q).rdy = x0 at c0 HKQ
              generalize (d q).due = x1 at c1 HKQ
              generalize (d q).wgt = x2 at c2 HKQ
              generalize (d q).rn = x3 at c3 HKQ
              generalize (d bn).rdy = y0 at e0 HKB
              generalize (d bn).due = y1 at e1 HKB
              generalize (d bn).wgt = y2 at e2 HKB
              generalize (d bn).rn = y3 at e3 HKB
              go_wp2
              have Q0 : Hid ((wi.drew.cell? ⟨kb, off + q * 4, none⟩ = some (.int .i64 x0) ∧ wi.drew.cell? ⟨kb, off + q * 4 + 1, none⟩ = some (.int .i64 x1) ∧ wi.drew.cell? ⟨kb, off + q * 4 + 2, none⟩ = some (.int .i64 x2) ∧ wi.drew.cell? ⟨kb, off + q * 4 + 3, none⟩ = some (.slice xa x3 xc) ∧ wi.drew.cell? ⟨kb, off + bn * 4, none⟩ = some (.int .i64 y0) ∧ wi.drew.cell? ⟨kb, off + bn * 4 + 1, none⟩ = some (.int .i64 y1) ∧ wi.drew.cell? ⟨kb, off + bn * 4 + 2, none⟩ = some (.int .i64 y2) ∧ wi.drew.cell? ⟨kb, off + bn * 4 + 3, none⟩ = some (.slice ya y3 yc)) ∧ Below w.heap.size w wi.drew ∧ AQ w g k oc z wi.drew) := hid ⟨⟨c0, c1, c2, c3, e0, e1, e2, e3⟩, HQ.out.bel.drew, HQ.out.below ((Below.refl _ _).drew)⟩
              clear c0 c1 c2 c3 e0 e1 e2 e3
              refine wp_region_noPanic ?_
              refine wp_region_held_drew (S := fun w' => w'.cell? ⟨kb, off + q * 4, none⟩ = some (.int .i64 x0) ∧ w'.cell? ⟨kb, off + q * 4 + 1, none⟩ = some (.int .i64 x1) ∧ w'.cell? ⟨kb, off + q * 4 + 2, none⟩ = some (.int .i64 x2) ∧ w'.cell? ⟨kb, off + q * 4 + 3, none⟩ = some (.slice xa x3 xc) ∧ w'.cell? ⟨kb, off + bn * 4, none⟩ = some (.int .i64 y0) ∧ w'.cell? ⟨kb, off + bn * 4 + 1, none⟩ = some (.int .i64 y1) ∧ w'.cell? ⟨kb, off + bn * 4 + 2, none⟩ = some (.int .i64 y2) ∧ w'.cell? ⟨kb, off + bn * 4 + 3, none⟩ = some (.slice ya y3 yc)) (by kernel_rfl) (by exact Q0.out.1) (fun hHeld => ?_)
              generalize wi.drew = VD at Q0 hHeld ⊢
              refine wpAnyH_take (i := 0) (oi := { dst := some 29, op := Go.Op.move (Go.Operand.tmp 5), type := 26, pos := "l19_load.go:149", after := #[], guard := none }) (v := ?_) rfl (by kernel_rfl) (by kernel_rfl) (by kernel_rfl) (fun _ _ _ h => h) (Or.inl ⟨by rfl, ?_⟩) (by assumption) ?_
              rotate_left
              · (intro w hSw; (try dsimp only at hSw); go_simp <;> try with_reducible rfl)
              try simp only [Act.put, List.setIfInBounds_toArray, List.set_cons_zero, List.set_cons_succ]
              refine wpAnyH_take (i := 1) (oi := { dst := some 30, op := Go.Op.move (Go.Operand.tmp 7), type := 3, pos := "l19_load.go:149", after := #[], guard := none }) (v := ?_) rfl (by kernel_rfl) (by kernel_rfl) (by kernel_rfl) (fun _ _ _ h => h) (Or.inl ⟨by rfl, ?_⟩) (by assumption) ?_
              rotate_left
              · (intro w hSw; (try dsimp only at hSw); go_simp <;> try with_reducible rfl)
              try simp only [Act.put, List.setIfInBounds_toArray, List.set_cons_zero, List.set_cons_succ]
              refine wpAnyH_ready (rs := [2]) (by kernel_rfl) (by simp) ?_
              refine AllReadyH.cons (o := { dst := some 31, op := Go.Op.call { callee := Go.Callee.value (Go.Operand.func 80), args := #[Go.Operand.tmp 29, Go.Operand.tmp 30], argTypes := #[26, 3] }, type := 4, pos := "l19_load.go:149", after := #[{ on := 0, ground := Go.Ground.data }, { on := 1, ground := Go.Ground.data }], guard := none }) rfl (fun K hK => ?_) (AllReadyH.nil)
              go_simp
              refine (HHS.out _ Q0.out.2.2).mono ?_
              rintro e w9 ⟨rfl, ew⟩
              replace ew := ew.symm
              subst ew
              first | refine hK.out _ _ (by exact Q0.out.1) (fun hHeld => ?_) | (go_wp2_with fail; refine hK.out _ _ (by exact Q0.out.1) (fun hHeld => ?_))
              clear hK K
              try simp only [Act.put, List.setIfInBounds_toArray, List.set_cons_zero, List.set_cons_succ]
              refine wpAnyH_take (i := 3) (oi := { dst := some 32, op := Go.Op.unOp Go.UnOp.not 4 (Go.Operand.tmp 31), type := 4, pos := "l19_load.go:149", after := #[{ on := 2, ground := Go.Ground.data }], guard := none }) (v := ?_) rfl (by kernel_rfl) (by kernel_rfl) (by kernel_rfl) (fun _ _ _ h => h) (Or.inl ⟨by rfl, ?_⟩) (by assumption) ?_
              rotate_left
              · (intro w hSw; (try dsimp only at hSw); go_simp <;> try with_reducible rfl)
              try simp only [Act.put, List.setIfInBounds_toArray, List.set_cons_zero, List.set_cons_succ]
              refine wpAnyH_take (i := 4) (oi := { dst := some 33, op := Go.Op.move (Go.Operand.tmp 32), type := 4, pos := "l19_load.go:149", after := #[{ on := 3, ground := Go.Ground.data }, { on := 2, ground := Go.Ground.chain }], guard := none }) (v := ?_) rfl (by kernel_rfl) (by kernel_rfl) (by kernel_rfl) (fun _ _ _ h => h) (Or.inl ⟨by rfl, ?_⟩) (by assumption) ?_
              rotate_left
              · (intro w hSw; (try dsimp only at hSw); go_simp <;> try with_reducible rfl)
              try simp only [Act.put, List.setIfInBounds_toArray, List.set_cons_zero, List.set_cons_succ]
              refine wpAnyH_take (i := 5) (oi := { dst := some 34, op := Go.Op.move (Go.Operand.tmp 6), type := 3, pos := "l19_load.go:149", after := #[{ on := 4, ground := Go.Ground.guard }], guard := some (4, true) }) (v := ?_) rfl (by kernel_rfl) (by kernel_rfl) (by kernel_rfl) (fun _ _ _ h => h) (Or.inl ⟨by rfl, ?_⟩) (by assumption) ?_
              rotate_left
              · (intro w hSw; (try dsimp only at hSw); go_simp <;> try with_reducible rfl)
              try simp only [Act.put, List.setIfInBounds_toArray, List.set_cons_zero, List.set_cons_succ]
              refine wpAnyH_take (i := 6) (oi := { dst := some 35, op := Go.Op.binOp Go.BinOp.lss 3 (Go.Operand.tmp 34) (Go.Operand.const (Go.Value.int Go.IntKind.i64 0)) 3, type := 4, pos := "l19_load.go:149", after := #[{ on := 5, ground := Go.Ground.data }, { on := 4, ground := Go.Ground.guard }], guard := some (4, true) }) (v := ?_) rfl (by kernel_rfl) (by kernel_rfl) (by kernel_rfl) (fun _ _ _ h => h) (Or.inl ⟨by rfl, ?_⟩) (by assumption) ?_
              rotate_left
              · (intro w hSw; (try dsimp only at hSw); go_simp <;> try with_reducible rfl)
              try simp only [Act.put, List.setIfInBounds_toArray, List.set_cons_zero, List.set_cons_succ]
              refine wpAnyH_take (i := 7) (oi := { dst := some 36, op := Go.Op.move (Go.Operand.tmp 35), type := 4, pos := "l19_load.go:149", after := #[{ on := 6, ground := Go.Ground.data }, { on := 4, ground := Go.Ground.chain }, { on := 4, ground := Go.Ground.guard }], guard := some (4, true) }) (v := ?_) rfl (by kernel_rfl) (by kernel_rfl) (by kernel_rfl) (fun _ _ _ h => h) (Or.inl ⟨by rfl, ?_⟩) (by assumption) ?_
              rotate_left
              · (intro w hSw; (try dsimp only at hSw); go_simp <;> try with_reducible rfl)
              try simp only [Act.put, List.setIfInBounds_toArray, List.set_cons_zero, List.set_cons_succ]
              refine wpAnyH_take (i := 8) (oi := { dst := some 37, op := Go.Op.move (Go.Operand.tmp 0), type := 25, pos := "l19_load.go:149", after := #[{ on := 7, ground := Go.Ground.guard }], guard := some (7, false) }) (v := ?_) rfl (by kernel_rfl) (by kernel_rfl) (by kernel_rfl) (fun _ _ _ h => h) (Or.inl ⟨by rfl, ?_⟩) (by assumption) ?_
              rotate_left
              · (intro w hSw; (try dsimp only at hSw); go_simp <;> try with_reducible rfl)
              try simp only [Act.put, List.setIfInBounds_toArray, List.set_cons_zero, List.set_cons_succ]
              refine wpAnyH_take (i := 9) (oi := { dst := some 38, op := Go.Op.move (Go.Operand.tmp 7), type := 3, pos := "l19_load.go:149", after := #[{ on := 7, ground := Go.Ground.guard }], guard := some (7, false) }) (v := ?_) rfl (by kernel_rfl) (by kernel_rfl) (by kernel_rfl) (fun _ _ _ h => h) (Or.inl ⟨by rfl, ?_⟩) (by assumption) ?_
              rotate_left
              · (intro w hSw; (try dsimp only at hSw); go_simp <;> try with_reducible rfl)
              try simp only [Act.put, List.setIfInBounds_toArray, List.set_cons_zero, List.set_cons_succ]
              refine wpAnyH_take (i := 10) (oi := { dst := some 39, op := Go.Op.indexAddr 25 (Go.Operand.tmp 37) (Go.Operand.tmp 38), type := 0, pos := "l19_load.go:149", after := #[{ on := 8, ground := Go.Ground.data }, { on := 9, ground := Go.Ground.data }, { on := 7, ground := Go.Ground.guard }], guard := some (7, false) }) (v := ?_) rfl (by kernel_rfl) (by kernel_rfl) (by kernel_rfl) (fun _ _ _ h => h) (Or.inl ⟨by rfl, ?_⟩) (by assumption) ?_
              rotate_left
              · (intro w hSw; (try dsimp only at hSw); go_simp <;> try with_reducible rfl)
              try simp only [Act.put, List.setIfInBounds_toArray, List.set_cons_zero, List.set_cons_succ]
              refine wpAnyH_take (i := 11) (oi := { dst := some 40, op := Go.Op.load 34 (Go.Operand.tmp 39), type := 34, pos := "l19_load.go:149", after := #[{ on := 10, ground := Go.Ground.data }, { on := 7, ground := Go.Ground.guard }], guard := some (7, false) }) (v := ?_) rfl (by kernel_rfl) (by kernel_rfl) (by kernel_rfl) (fun _ _ _ h => h) (Or.inl ⟨by rfl, ?_⟩) (by assumption) ?_
              rotate_left
              · (intro w hSw; (try dsimp only at hSw); go_simp <;> try with_reducible rfl)
              try simp only [Act.put, List.setIfInBounds_toArray, List.set_cons_zero, List.set_cons_succ]
              refine wpAnyH_take (i := 12) (oi := { dst := some 41, op := Go.Op.move (Go.Operand.tmp 1), type := 3, pos := "l19_load.go:149", after := #[{ on := 7, ground := Go.Ground.guard }], guard := some (7, false) }) (v := ?_) rfl (by kernel_rfl) (by kernel_rfl) (by kernel_rfl) (fun _ _ _ h => h) (Or.inl ⟨by rfl, ?_⟩) (by assumption) ?_
              rotate_left
              · (intro w hSw; (try dsimp only at hSw); go_simp <;> try with_reducible rfl)
              try simp only [Act.put, List.setIfInBounds_toArray, List.set_cons_zero, List.set_cons_succ]
              refine wpAnyH_take (i := 14) (oi := { dst := some 43, op := Go.Op.move (Go.Operand.tmp 0), type := 25, pos := "l19_load.go:149", after := #[{ on := 7, ground := Go.Ground.guard }], guard := some (7, false) }) (v := ?_) rfl (by kernel_rfl) (by kernel_rfl) (by kernel_rfl) (fun _ _ _ h => h) (Or.inl ⟨by rfl, ?_⟩) (by assumption) ?_
              rotate_left
              · (intro w hSw; (try dsimp only at hSw); go_simp <;> try with_reducible rfl)
              try simp only [Act.put, List.setIfInBounds_toArray, List.set_cons_zero, List.set_cons_succ]
              refine wpAnyH_take (i := 15) (oi := { dst := some 44, op := Go.Op.move (Go.Operand.tmp 6), type := 3, pos := "l19_load.go:149", after := #[{ on := 7, ground := Go.Ground.guard }], guard := some (7, false) }) (v := ?_) rfl (by kernel_rfl) (by kernel_rfl) (by kernel_rfl) (fun _ _ _ h => h) (Or.inl ⟨by rfl, ?_⟩) (by assumption) ?_
              rotate_left
              · (intro w hSw; (try dsimp only at hSw); go_simp <;> try with_reducible rfl)
              try simp only [Act.put, List.setIfInBounds_toArray, List.set_cons_zero, List.set_cons_succ]
              refine wpAnyH_take (i := 16) (oi := { dst := some 45, op := Go.Op.indexAddr 25 (Go.Operand.tmp 43) (Go.Operand.tmp 44), type := 0, pos := "l19_load.go:149", after := #[{ on := 14, ground := Go.Ground.data }, { on := 15, ground := Go.Ground.data }, { on := 7, ground := Go.Ground.guard }], guard := some (7, false) }) (v := ?_) rfl (by kernel_rfl) (by kernel_rfl) (by kernel_rfl) (fun _ _ _ h => h) (Or.inl ⟨by rfl, ?_⟩) (by assumption) ?_
              rotate_left
              · (intro w hSw; (try dsimp only at hSw); go_simp <;> try with_reducible rfl)
              try simp only [Act.put, List.setIfInBounds_toArray, List.set_cons_zero, List.set_cons_succ]
              refine wpAnyH_take (i := 17) (oi := { dst := some 46, op := Go.Op.load 34 (Go.Operand.tmp 45), type := 34, pos := "l19_load.go:149", after := #[{ on := 16, ground := Go.Ground.data }, { on := 7, ground := Go.Ground.guard }], guard := some (7, false) }) (v := ?_) rfl (by kernel_rfl) (by kernel_rfl) (by kernel_rfl) (fun _ _ _ h => h) (Or.inl ⟨by rfl, ?_⟩) (by assumption) ?_
              rotate_left
              · (intro w hSw; (try dsimp only at hSw); go_simp <;> try with_reducible rfl)
              try simp only [Act.put, List.setIfInBounds_toArray, List.set_cons_zero, List.set_cons_succ]
              refine wpAnyH_take (i := 18) (oi := { dst := some 47, op := Go.Op.move (Go.Operand.tmp 1), type := 3, pos := "l19_load.go:149", after := #[{ on := 7, ground := Go.Ground.guard }], guard := some (7, false) }) (v := ?_) rfl (by kernel_rfl) (by kernel_rfl) (by kernel_rfl) (fun _ _ _ h => h) (Or.inl ⟨by rfl, ?_⟩) (by assumption) ?_
              rotate_left
              · (intro w hSw; (try dsimp only at hSw); go_simp <;> try with_reducible rfl)
              try simp only [Act.put, List.setIfInBounds_toArray, List.set_cons_zero, List.set_cons_succ]
              refine wpAnyH_ready (rs := [13]) (by kernel_rfl) (by simp) ?_
              refine AllReadyH.cons (o := { dst := some 42, op := Go.Op.call { callee := Go.Callee.value (Go.Operand.func 81), args := #[Go.Operand.tmp 40, Go.Operand.tmp 41], argTypes := #[34, 3] }, type := 3, pos := "l19_load.go:149", after := #[{ on := 11, ground := Go.Ground.data }, { on := 12, ground := Go.Ground.data }, { on := 7, ground := Go.Ground.chain }, { on := 7, ground := Go.Ground.guard }], guard := some (7, false) }) rfl (fun K hK => ?_) (AllReadyH.nil)
              go_simp
              refine (HKQ.out _ Q0.out.2.1).mono ?_
              rintro e w2 ⟨rfl, b2⟩
              have Q2 : Hid ((w2.cell? ⟨kb, off + q * 4, none⟩ = some (.int .i64 x0) ∧ w2.cell? ⟨kb, off + q * 4 + 1, none⟩ = some (.int .i64 x1) ∧ w2.cell? ⟨kb, off + q * 4 + 2, none⟩ = some (.int .i64 x2) ∧ w2.cell? ⟨kb, off + q * 4 + 3, none⟩ = some (.slice xa x3 xc) ∧ w2.cell? ⟨kb, off + bn * 4, none⟩ = some (.int .i64 y0) ∧ w2.cell? ⟨kb, off + bn * 4 + 1, none⟩ = some (.int .i64 y1) ∧ w2.cell? ⟨kb, off + bn * 4 + 2, none⟩ = some (.int .i64 y2) ∧ w2.cell? ⟨kb, off + bn * 4 + 3, none⟩ = some (.slice ya y3 yc)) ∧ Below w.heap.size w w2 ∧ AQ w g k oc z w2) := hid ⟨⟨keep_cell b2 Q0.out.1.1, keep_cell b2 Q0.out.1.2.1, keep_cell b2 Q0.out.1.2.2.1, keep_cell b2 Q0.out.1.2.2.2.1, keep_cell b2 Q0.out.1.2.2.2.2.1, keep_cell b2 Q0.out.1.2.2.2.2.2.1, keep_cell b2 Q0.out.1.2.2.2.2.2.2.1, keep_cell b2 Q0.out.1.2.2.2.2.2.2.2⟩, bel_on Q0.out.2.1 b2, Q0.out.2.2.below b2⟩
              clear b2
              first | refine hK.out _ _ (by exact Q2.out.1) (fun hHeld => ?_) | (go_wp2_with fail; refine hK.out _ _ (by exact Q2.out.1) (fun hHeld => ?_))
              clear hK K
              try simp only [Act.put, List.setIfInBounds_toArray, List.set_cons_zero, List.set_cons_succ]
              refine wpAnyH_ready (rs := [19]) (by kernel_rfl) (by simp) ?_
              refine AllReadyH.cons (o := { dst := some 48, op := Go.Op.call { callee := Go.Callee.value (Go.Operand.func 81), args := #[Go.Operand.tmp 46, Go.Operand.tmp 47], argTypes := #[34, 3] }, type := 3, pos := "l19_load.go:149", after := #[{ on := 17, ground := Go.Ground.data }, { on := 18, ground := Go.Ground.data }, { on := 13, ground := Go.Ground.chain }, { on := 7, ground := Go.Ground.guard }], guard := some (7, false) }) rfl (fun K hK => ?_) (AllReadyH.nil)
              go_simp
              refine (HKB.out _ Q2.out.2.1).mono ?_
              rintro e w3 ⟨rfl, b3⟩
              have Q3 : Hid ((w3.cell? ⟨kb, off + q * 4, none⟩ = some (.int .i64 x0) ∧ w3.cell? ⟨kb, off + q * 4 + 1, none⟩ = some (.int .i64 x1) ∧ w3.cell? ⟨kb, off + q * 4 + 2, none⟩ = some (.int .i64 x2) ∧ w3.cell? ⟨kb, off + q * 4 + 3, none⟩ = some (.slice xa x3 xc) ∧ w3.cell? ⟨kb, off + bn * 4, none⟩ = some (.int .i64 y0) ∧ w3.cell? ⟨kb, off + bn * 4 + 1, none⟩ = some (.int .i64 y1) ∧ w3.cell? ⟨kb, off + bn * 4 + 2, none⟩ = some (.int .i64 y2) ∧ w3.cell? ⟨kb, off + bn * 4 + 3, none⟩ = some (.slice ya y3 yc)) ∧ Below w.heap.size w w3 ∧ AQ w g k oc z w3) := hid ⟨⟨keep_cell b3 Q2.out.1.1, keep_cell b3 Q2.out.1.2.1, keep_cell b3 Q2.out.1.2.2.1, keep_cell b3 Q2.out.1.2.2.2.1, keep_cell b3 Q2.out.1.2.2.2.2.1, keep_cell b3 Q2.out.1.2.2.2.2.2.1, keep_cell b3 Q2.out.1.2.2.2.2.2.2.1, keep_cell b3 Q2.out.1.2.2.2.2.2.2.2⟩, bel_on Q2.out.2.1 b3, Q2.out.2.2.below b3⟩
              clear b3
              first | refine hK.out _ _ (by exact Q3.out.1) (fun hHeld => ?_) | (go_wp2_with fail; refine hK.out _ _ (by exact Q3.out.1) (fun hHeld => ?_))
              clear hK K
              try simp only [Act.put, List.setIfInBounds_toArray, List.set_cons_zero, List.set_cons_succ]
              refine wpAnyH_take (i := 20) (oi := { dst := some 49, op := Go.Op.binOp Go.BinOp.lss 3 (Go.Operand.tmp 42) (Go.Operand.tmp 48) 3, type := 4, pos := "l19_load.go:149", after := #[{ on := 13, ground := Go.Ground.data }, { on := 19, ground := Go.Ground.data }, { on := 7, ground := Go.Ground.guard }], guard := some (7, false) }) (v := ?_) rfl (by kernel_rfl) (by kernel_rfl) (by kernel_rfl) (fun _ _ _ h => h) (Or.inl ⟨by rfl, ?_⟩) (by assumption) ?_
              rotate_left
              · (intro w hSw; (try dsimp only at hSw); go_simp <;> try with_reducible rfl)
              try simp only [Act.put, List.setIfInBounds_toArray, List.set_cons_zero, List.set_cons_succ]
              refine wpAnyH_take (i := 21) (oi := { dst := some 50, op := Go.Op.pick (Go.Operand.tmp 36) (Go.Operand.const (Go.Value.bool true)) (Go.Operand.tmp 49), type := 4, pos := "l19_load.go:149", after := #[{ on := 7, ground := Go.Ground.data }, { on := 20, ground := Go.Ground.data }, { on := 4, ground := Go.Ground.guard }], guard := some (4, true) }) (v := ?_) rfl (by kernel_rfl) (by kernel_rfl) (by kernel_rfl) (fun _ _ _ h => h) (Or.inl ⟨by rfl, ?_⟩) (by assumption) ?_
              rotate_left
              · (intro w hSw; (try dsimp only at hSw); go_simp <;> try with_reducible rfl)
              try simp only [Act.put, List.setIfInBounds_toArray, List.set_cons_zero, List.set_cons_succ]
              refine wpAnyH_take (i := 22) (oi := { dst := some 51, op := Go.Op.pick (Go.Operand.tmp 33) (Go.Operand.tmp 50) (Go.Operand.const (Go.Value.bool false)), type := 4, pos := "l19_load.go:149", after := #[{ on := 4, ground := Go.Ground.data }, { on := 21, ground := Go.Ground.data }], guard := none }) (v := ?_) rfl (by kernel_rfl) (by kernel_rfl) (by kernel_rfl) (fun _ _ _ h => h) (Or.inl ⟨by rfl, ?_⟩) (by assumption) ?_
              rotate_left
              · (intro w hSw; (try dsimp only at hSw); go_simp <;> try with_reducible rfl)
              try simp only [Act.put, List.setIfInBounds_toArray, List.set_cons_zero, List.set_cons_succ]
              refine wpAnyH_done (by kernel_rfl) ?_ _
              refine NoPanic.normal ?_
              clear hHeld
              have HQ3 : Hid (AQ w g k oc z w3) := Q3.out.2.2
              clear Q0 Q2 Q3 HKQ HKB HHS HTQ
              by_cases huv : U < V
              · have HN2 : Hid (BsP d rule z k (q + 1) (q : Int)) := hid (bs_new HB.out hb0 HH0.out (by rw [HUV.out.1, Int.toNat_natCast, HUV.out.2]; exact huv))
                go_wp2
                go_roundw
                case rel => exact ⟨q + 1, (q : Int), by omega, by go_num, rfl, HN2, HQ3⟩
                case measure => simp [intOf]; omega
              · have HN2 : Hid (BsP d rule z k (q + 1) (bn : Int)) := hid (bs_old HB.out hb0 (by rw [HUV.out.1, Int.toNat_natCast, HUV.out.2]; exact huv))
                go_wp2
                go_roundw
                case rel => exact ⟨q + 1, (bn : Int), by omega, by go_num, rfl, HN2, HQ3⟩
                case measure => simp [intOf]; omega
          · have HHS : Hid (∀ W, AQ w g k oc z W → Calls Try.prog 80 #[.slice (some ⟨g, 0, none⟩) k oc, .int .i64 (q : Int)] W fun e w' => e = .returned (.bool true) ∧ w' = W) := hid fun W h => l7Has_eq _ k oc z (q : Int) true W (by omega) h.row hh
            have HN2 : Hid (BsP d rule z k (q + 1) b) := hid (bs_has HB.out hh)
            clear hh
            go_wp2
            go_quiet (first | (go_at_call 80; exact Calls.quiet_of_same (HHS.out _ (HQ.out.below (bd_N (Below.refl _ _) _)))))
            have HQ2 : Hid (AQ w g k oc z (wi.drewN nq)) := hid (HQ.out.below (bd_N (Below.refl _ _) _))
            generalize wi.drewN nq = W5 at HQ2 ⊢
            go_wp2
            go_roundw
            case rel => exact ⟨q + 1, b, by omega, by go_num, rfl, HN2, HQ2⟩
            case measure => simp [intOf]; omega
        · obtain rfl : q = n := by omega
          have lqq : ¬ (q : Int) < (q : Int) := by omega
          have HNX : Hid (∀ j, j < k + 1 → IsNx d rule q (fun j => if j = k then b else z j) j) := fun j hj => by
            by_cases e : j = k
            · subst e; exact bs_end HB.out hlt
            · exact nx_keep (HX.out j (by omega)) (by omega)
          go_wp2_with (at_builtin; refine wpList_append_own_at _ rfl _ _ 26 rfl w.heap.size 3 i3 (.int .i64 0) 1 8 Try.underlying26 hi3 hz30 hz31 hz32 rfl (by decide) (.slice (some ⟨g, 0, none⟩) k oc) k (intR z k) rfl (HQ.out.below ((Below.refl _ _).alloc (Nat.le_refl _) _)).own ⟨wi.heap.size, 0, none⟩ 1 1 [.int .i64 b] rfl rfl (ecells rfl) (fun u hu => by simp at hu; subst hu; rfl) (by unfold maxLen; omega) (by omega) (by have := HQ.out.own.lt g rfl; simp; omega) ?_; intro v9 w9 hown hgrow hnil hat; obtain ⟨g9, oc9, rfl, _⟩ := eown_some hown (by omega); have R9 : Hid (AQ w g9 (k + 1) oc9 (fun j => if j = k then b else z j) w9) := hid (((HQ.out.congr (y := fun j => if j = k then b else z j) (fun j hj => by simp [show ¬ j = k by omega])).below ((Below.refl _ _).alloc (Nat.le_refl _) _)).grow (x := b) (show b = (if k = k then b else z k) by simp) hgrow (by rw [← intR_congr (c := z) (d := fun j => if j = k then b else z j) (fun j hj => by simp [show ¬ j = k by omega])]; exact hown)); clear hown hgrow hnil hat)
          go_roundw
          case rel => exact ⟨k + 1, g9, oc9, _, by omega, rfl, R9, HNX⟩
          case measure => simp; omega
    · obtain rfl : k = n := by omega
      have lkk : ¬ (k : Int) < (k : Int) := by omega
      have HE : Hid (∀ j, j < k → rkF d rule k j = z j) := hid (rkF_eq HX.out)
      have HO : Hid (OwnI wr w.heap.size (some ⟨g, 0, none⟩) k (rkF d rule k)) := hid ((HH.out.congr fun j hj => (HE.out j hj).symm).fin)
      go_wp2
      go_returns
      first | exact ⟨_, _, rfl, HO.out, HH.out.bel, HH.out.room⟩ | exact ⟨_, ⟨_, rfl⟩, HO.out, HH.out.bel, HH.out.room⟩
theorem rk_bd {d : Nat → JB} {r : Int} {m : Nat} (hm : (m : Int) ≤ 1048576) : ((rkM d r m : Nat) : Int) ≤ 1048576 := by unfold rkM; split <;> omega
theorem ldM_bd2 {n : Nat} {c : Nat → MA3} {m : Nat} {d : Nat → JB} {no : Nat} {o : Nat → Int} : ((ldM n c m d no o : Nat) : Int) ≤ 1048576 := by
  by_cases H : LdP n c m d no o
  · have h3 := (lo_p H.1).2.2.1
    have hk := kN_bd (d := d) (o := o) (m := m) (fun j hj => (jbB_p (h3.2 j hj)).2.1) (fun i hi => H.2.1.2.1 i (by have := H.2.1.1; omega)) (Nat.le_refl m)
    have := h3.1
    rw [(ld_yes H).2]; omega
  · rw [(ld_no H).2]; omega
theorem lt_nn {m : Nat} {d : Nat → JB} {n : Nat} {s : Nat → SL5} : 0 ≤ ltV m d n s := by
  by_cases H : LtP m d n s
  · rw [(lt_yes H).1]
    exact (lat_bd H.1.2 (fun j => (en_bd (k := n) (fun i hi => by have := H.2.2 i hi; unfold slB at this; simp only [Bool.and_eq_true] at this; exact inB_t this.2)).1 j)).1
  · rw [(lt_no H).1]; omega
def rl (k : Nat) : Int := ((k + 1 : Nat) : Int)
noncomputable def bM (d : Nat → JB) (m k : Nat) : Nat := rkM d (rl k) m
noncomputable def bO (d : Nat → JB) (m k : Nat) : Nat → Int := rkF d (rl k) m
noncomputable def bB (n : Nat) (c : Nat → MA3) (m : Nat) (d : Nat → JB) (k : Nat) : Bool := ldB n c m d (bM d m k) (bO d m k)
noncomputable def bV (n : Nat) (c : Nat → MA3) (m : Nat) (d : Nat → JB) (k : Nat) : Int := ltV m d (ldM n c m d (bM d m k) (bO d m k)) (sN c d (bO d m k) m)
/-- The place of the first of the least among the first k. -/
def bs (B : Nat → Bool) (V : Nat → Int) : Nat → Option Nat
  | 0 => none
  | k + 1 => match bs B V k with
    | none => if B k then some k else none
    | some q => if B k && decide (V k < V q) then some k else some q
theorem bs_lt {B : Nat → Bool} {V : Nat → Int} : ∀ {k q : Nat}, bs B V k = some q → q < k
  | 0, q, h => by cases h
  | k + 1, q, h => by
    unfold bs at h
    split at h
    · split at h
      · cases h; omega
      · cases h
    · rename_i q' hq
      have := bs_lt hq
      split at h <;> (cases h; omega)
noncomputable def beM (n : Nat) (c : Nat → MA3) (m : Nat) (d : Nat → JB) : Nat := match bs (bB n c m d) (bV n c m d) 4 with | none => 0 | some q => bM d m q
noncomputable def beF (n : Nat) (c : Nat → MA3) (m : Nat) (d : Nat → JB) : Nat → Int := match bs (bB n c m d) (bV n c m d) 4 with | none => fun _ => 0 | some q => bO d m q
noncomputable def beV (n : Nat) (c : Nat → MA3) (m : Nat) (d : Nat → JB) : Int := match bs (bB n c m d) (bV n c m d) 4 with | none => -1 | some q => bV n c m d q
theorem be_no {n : Nat} {c : Nat → MA3} {m : Nat} {d : Nat → JB} (h : bs (bB n c m d) (bV n c m d) 4 = none) : beM n c m d = 0 ∧ beV n c m d = -1 := by unfold beM beV; rw [h]; exact ⟨rfl, rfl⟩
theorem be_yes {n : Nat} {c : Nat → MA3} {m : Nat} {d : Nat → JB} {q : Nat} (h : bs (bB n c m d) (bV n c m d) 4 = some q) : beM n c m d = bM d m q ∧ beF n c m d = bO d m q ∧ beV n c m d = bV n c m d q := by unfold beM beF beV; rw [h]; exact ⟨rfl, rfl, rfl⟩
theorem be_bd {n : Nat} {c : Nat → MA3} {m : Nat} {d : Nat → JB} (hm : (m : Int) ≤ 1048576) : ((beM n c m d : Nat) : Int) ≤ 1048576 := by
  cases h : bs (bB n c m d) (bV n c m d) 4
  · rw [(be_no h).1]; omega
  · rw [(be_yes h).1]; exact rk_bd hm
/-- What the model holds behind k rules. -/
def BsI (n : Nat) (c : Nat → MA3) (m : Nat) (d : Nat → JB) (k M : Nat) (F : Nat → Int) (L : Int) : Prop :=
  (bs (bB n c m d) (bV n c m d) k = none ∧ M = 0 ∧ L = -1) ∨ ∃ q, bs (bB n c m d) (bV n c m d) k = some q ∧ M = bM d m q ∧ F = bO d m q ∧ L = bV n c m d q ∧ 0 ≤ L
section
variable {n : Nat} {c : Nat → MA3} {m : Nat} {d : Nat → JB} {k M : Nat} {F : Nat → Int} {L : Int}
theorem bsi_f (hb : bB n c m d k = false) (h : BsI n c m d k M F L) : BsI n c m d (k + 1) M F L := by
  rcases h with ⟨h1, h2⟩ | ⟨q, h1, h2⟩
  · exact .inl ⟨by unfold bs; rw [h1]; simp [hb], h2⟩
  · exact .inr ⟨q, by unfold bs; rw [h1]; simp [hb], h2⟩
theorem bsi_n (hb : bB n c m d k = true) (h : BsI n c m d k M F L) (hl : L < 0 ∨ bV n c m d k < L) : BsI n c m d (k + 1) (bM d m k) (bO d m k) (bV n c m d k) := by
  rcases h with ⟨h1, h2⟩ | ⟨q, h1, h2, h3, h4, h5⟩
  · exact .inr ⟨k, by unfold bs; rw [h1]; simp [hb], rfl, rfl, rfl, lt_nn⟩
  · exact .inr ⟨k, by unfold bs; rw [h1]; simp [hb]; omega, rfl, rfl, rfl, lt_nn⟩
theorem bsi_k (hb : bB n c m d k = true) (h : BsI n c m d k M F L) (h1 : ¬ L < 0) (h2 : ¬ bV n c m d k < L) : BsI n c m d (k + 1) M F L := by
  rcases h with ⟨_, _, e⟩ | ⟨q, g1, g2, g3, g4, g5⟩
  · omega
  · exact .inr ⟨q, by unfold bs; rw [g1]; simp [hb]; omega, g2, g3, g4, g5⟩
theorem bsi_end {w : World} {lo : Nat} {ad : Option Addr} (h : BsI n c m d 4 M F L) (ho : OwnI w lo ad M F) : M = beM n c m d ∧ L = beV n c m d ∧ OwnI w lo ad (beM n c m d) (beF n c m d) := by
  rcases h with ⟨h1, rfl, rfl⟩ | ⟨q, h1, rfl, rfl, rfl, _⟩
  · exact ⟨(be_no h1).1.symm, (be_no h1).2.symm, .inl (be_no h1).1⟩
  · refine ⟨(be_yes h1).1.symm, (be_yes h1).2.2.symm, ?_⟩
    rw [(be_yes h1).1, (be_yes h1).2.1]; exact ho
end

set_option maxRecDepth 20000 in
set_option maxHeartbeats 8000000 in
theorem specBest_any (ma : Option Addr) (n mk : Nat) (c : Nat → MA3) (ja : Option Addr) (m jk : Nat) (d : Nat → JB) (w : World) (hn : (n : Int) ≤ 1048576) (hm : (m : Int) ≤ 1048576) (hl : ∀ j, j < m → ((d j).rn : Int) ≤ 1048576) (hM : MAr w ma n c) (hJ : JBr w ja m d) :
    Calls Try.prog 20 #[.slice ma n mk, .slice ja m jk] w fun e w' => ∃ ad cap, e = .returned (.tuple #[.slice ad (beM n c m d) cap, .int .i64 (beV n c m d)]) ∧ OwnI w' w.heap.size ad (beM n c m d) (beF n c m d) ∧ Below w.heap.size w w' := by
  have HM0 : Hid (MAr w ma n c) := hM
  have HJ0 : Hid (JBr w ja m d) := hJ
  have HN : Hid (∀ j, j < m → ((d j).rn : Int) ≤ 1048576) := hl
  have HBL : Hid (Below w.heap.size w (w.alloc (.cells #[] 3))) := (Below.refl _ _).alloc (Nat.le_refl _) _
  clear hM hJ hl
  go_enter Try.func20, Try.ntmps20
  go_wp2
  go_loopw [6, 7, 8] (fun b l i wr => ∃ (k R M cap : Nat) (ad : Option Addr) (F : Nat → Int) (L : Int), R ≤ 5 ∧ i = .int .i64 (R : Int) ∧ b = .slice ad M cap ∧ l = .int .i64 L ∧ Hid (R = k + 1) ∧ Hid (OwnI wr w.heap.size ad M F) ∧ Hid (BsI n c m d k M F L) ∧ Hid (Below w.heap.size w wr)) (fun _ _ i _ => 5 - (intOf i).toNat)
  case atStart => exact ⟨0, 1, 0, 0, some ⟨w.heap.size, 0, none⟩, fun _ => 0, -1, by omega, rfl, rfl, rfl, rfl, .inl rfl, .inl ⟨rfl, rfl, rfl⟩, HBL⟩
  case round =>
    obtain ⟨k, R, M, cap, ad, F, L, hR5, rfl, rfl, rfl, HRK, HOW, HBI, HB⟩ := hrel
    obtain ⟨wo, rfl⟩ : ∃ x, x = wr := ⟨wr, rfl⟩
    by_cases hlt : R < 5
    · have hlt2 : (R : Int) ≤ 4 := by omega
      have hRR : Hid ((R : Int) = rl k) := hid (by unfold rl; rw [HRK.out])
      obtain ⟨M1, hM1⟩ : ∃ x, rkM d (R : Int) m = x := ⟨_, rfl⟩
      obtain ⟨F1, hF1⟩ : ∃ x, rkF d (R : Int) m = x := ⟨_, rfl⟩
      have hM1b : (M1 : Int) ≤ 1048576 := by rw [← hM1]; exact rk_bd hm
      obtain ⟨M2, hM2⟩ : ∃ x, ldM n c m d M1 F1 = x := ⟨_, rfl⟩
      obtain ⟨B, hB⟩ : ∃ x, ldB n c m d M1 F1 = x := ⟨_, rfl⟩
      obtain ⟨S, hS⟩ : ∃ x, sN c d F1 m = x := ⟨_, rfl⟩
      have hM2b : (M2 : Int) ≤ 1048576 := by rw [← hM2]; exact ldM_bd2
      obtain ⟨V, hV⟩ : ∃ x, ltV m d M2 S = x := ⟨_, rfl⟩
      obtain ⟨E, hE⟩ : ∃ x, ltE m d M2 S = x := ⟨_, rfl⟩
      have HQ1 : Hid (∀ W, Below w.heap.size w W → Calls Try.prog 42 #[.slice ja m jk, .int .i64 (R : Int)] W fun e w' => ∃ ad cap, e = .returned (.slice ad M1 cap) ∧ OwnI w' W.heap.size ad M1 F1 ∧ Below W.heap.size W w' ∧ M1 ≤ cap) := hid fun W hW => by
        have := specRank_room ja m jk d (R : Int) W hm HN.out (HJ0.out.below hW)
        rw [hM1, hF1] at this; exact this
      have HQ2 : Hid (∀ W ad cap, Below w.heap.size w W → IR W ad M1 F1 → M1 ≤ cap → Calls Try.prog 14 #[.slice ma n mk, .slice ja m jk, .slice ad M1 cap] W fun e w' => ∃ ad cap, e = .returned (.tuple #[.slice ad M2 cap, .bool B]) ∧ SLr w' ad M2 S ∧ Below W.heap.size W w') := hid fun W ad cap hW hI hc => by
        have := specLoad_any ma n mk c ja m jk d ad M1 cap F1 W hn hm HN.out hM1b hc (HM0.out.below hW) (HJ0.out.below hW) hI
        rw [hM2, hB, hS] at this
        refine this.mono ?_
        rintro e w1 ⟨ad2, cap2, h1, h2, h3⟩
        exact ⟨ad2, cap2, h1, h2.row, h3⟩
      have HQ3 : Hid (∀ W ad cap, Below w.heap.size w W → SLr W ad M2 S → Calls Try.prog 45 #[.slice ja m jk, .slice ad M2 cap] W fun e w' => e = .returned (.tuple #[.int .i64 V, .int .i64 E]) ∧ Below W.heap.size W w') := hid fun W ad cap hW hI => specLate_eq ja m jk d ad M2 cap S V E W hm hM2b HN.out (HJ0.out.below hW) hI hV hE
      have HE1 : Hid (bM d m k = M1 ∧ bO d m k = F1) := hid ⟨by unfold bM; rw [← hRR.out]; exact hM1, by unfold bO; rw [← hRR.out]; exact hF1⟩
      have HE2 : Hid (bB n c m d k = B ∧ bV n c m d k = V) := hid ⟨by unfold bB; rw [HE1.out.1, HE1.out.2]; exact hB, by unfold bV; rw [HE1.out.1, HE1.out.2, hM2, hS]; exact hV⟩
      clear hM1 hF1 hM2 hB hS hV hE
      cases B
      · have HBI2 : Hid (BsI n c m d (k + 1) M F L) := hid (bsi_f HE2.out.1 HBI.out)
        go_wp2_with (first | (go_at_call 42; refine (HQ1.out _ HB.out).mono ?_; rintro e w1 ⟨ad1, cap1, rfl, o1, b1, hc1⟩; have HON1 : Hid (OwnI w1 w.heap.size ad1 M1 F1) := hid (o1.mono HB.out.size); have HOW1 := hid (HOW.out.below b1); have HB1 : Hid (Below w.heap.size w w1) := hid (bel_on HB.out b1); have HC1 : Hid (M1 ≤ cap1) := hc1; clear o1 b1 hc1) | (go_at_call 14; refine (HQ2.out _ ad1 cap1 HB1.out HON1.out.row HC1.out).mono ?_; rintro e w2 ⟨ad2, cap2, rfl, o2, b2⟩; have HS2 := hid o2; have HON2 := hid (HON1.out.below b2); have HOW2 := hid (HOW1.out.below b2); have HB2 : Hid (Below w.heap.size w w2) := hid (bel_on HB1.out b2); clear o2 b2) | (go_at_call 45; refine (HQ3.out _ ad2 cap2 HB2.out HS2.out).mono ?_; rintro e w3 ⟨rfl, b3⟩; have HON3 := hid (HON2.out.below b3); have HOW3 := hid (HOW2.out.below b3); have HB3 : Hid (Below w.heap.size w w3) := hid (bel_on HB2.out b3); clear b3))
        go_roundw
        case rel => exact ⟨k + 1, R + 1, M, cap, ad, F, L, by omega, by go_num, rfl, rfl, hid (by have := HRK.out; omega), HOW2.out, HBI2, HB2⟩
        case measure => simp [intOf]; omega
      · by_cases hL : L < 0
        · have HBI2 : Hid (BsI n c m d (k + 1) M1 F1 V) := hid (by have := bsi_n HE2.out.1 HBI.out (.inl hL); rw [HE1.out.1, HE1.out.2, HE2.out.2] at this; exact this)
          go_wp2_with (first | (go_at_call 42; refine (HQ1.out _ HB.out).mono ?_; rintro e w1 ⟨ad1, cap1, rfl, o1, b1, hc1⟩; have HON1 : Hid (OwnI w1 w.heap.size ad1 M1 F1) := hid (o1.mono HB.out.size); have HOW1 := hid (HOW.out.below b1); have HB1 : Hid (Below w.heap.size w w1) := hid (bel_on HB.out b1); have HC1 : Hid (M1 ≤ cap1) := hc1; clear o1 b1 hc1) | (go_at_call 14; refine (HQ2.out _ ad1 cap1 HB1.out HON1.out.row HC1.out).mono ?_; rintro e w2 ⟨ad2, cap2, rfl, o2, b2⟩; have HS2 := hid o2; have HON2 := hid (HON1.out.below b2); have HOW2 := hid (HOW1.out.below b2); have HB2 : Hid (Below w.heap.size w w2) := hid (bel_on HB1.out b2); clear o2 b2) | (go_at_call 45; refine (HQ3.out _ ad2 cap2 HB2.out HS2.out).mono ?_; rintro e w3 ⟨rfl, b3⟩; have HON3 := hid (HON2.out.below b3); have HOW3 := hid (HOW2.out.below b3); have HB3 : Hid (Below w.heap.size w w3) := hid (bel_on HB2.out b3); clear b3))
          go_roundw
          case rel => exact ⟨k + 1, R + 1, M1, _, _, F1, V, by omega, by go_num, rfl, rfl, hid (by have := HRK.out; omega), HON3.out, HBI2, HB3⟩
          case measure => simp [intOf]; omega
        · by_cases hL2 : V < L
          · have HBI2 : Hid (BsI n c m d (k + 1) M1 F1 V) := hid (by have := bsi_n HE2.out.1 HBI.out (.inr (by rw [HE2.out.2]; exact hL2)); rw [HE1.out.1, HE1.out.2, HE2.out.2] at this; exact this)
            go_wp2_with (first | (go_at_call 42; refine (HQ1.out _ HB.out).mono ?_; rintro e w1 ⟨ad1, cap1, rfl, o1, b1, hc1⟩; have HON1 : Hid (OwnI w1 w.heap.size ad1 M1 F1) := hid (o1.mono HB.out.size); have HOW1 := hid (HOW.out.below b1); have HB1 : Hid (Below w.heap.size w w1) := hid (bel_on HB.out b1); have HC1 : Hid (M1 ≤ cap1) := hc1; clear o1 b1 hc1) | (go_at_call 14; refine (HQ2.out _ ad1 cap1 HB1.out HON1.out.row HC1.out).mono ?_; rintro e w2 ⟨ad2, cap2, rfl, o2, b2⟩; have HS2 := hid o2; have HON2 := hid (HON1.out.below b2); have HOW2 := hid (HOW1.out.below b2); have HB2 : Hid (Below w.heap.size w w2) := hid (bel_on HB1.out b2); clear o2 b2) | (go_at_call 45; refine (HQ3.out _ ad2 cap2 HB2.out HS2.out).mono ?_; rintro e w3 ⟨rfl, b3⟩; have HON3 := hid (HON2.out.below b3); have HOW3 := hid (HOW2.out.below b3); have HB3 : Hid (Below w.heap.size w w3) := hid (bel_on HB2.out b3); clear b3))
            go_roundw
            case rel => exact ⟨k + 1, R + 1, M1, _, _, F1, V, by omega, by go_num, rfl, rfl, hid (by have := HRK.out; omega), HON3.out, HBI2, HB3⟩
            case measure => simp [intOf]; omega
          · have HBI2 : Hid (BsI n c m d (k + 1) M F L) := hid (bsi_k HE2.out.1 HBI.out hL (by rw [HE2.out.2]; exact hL2))
            go_wp2_with (first | (go_at_call 42; refine (HQ1.out _ HB.out).mono ?_; rintro e w1 ⟨ad1, cap1, rfl, o1, b1, hc1⟩; have HON1 : Hid (OwnI w1 w.heap.size ad1 M1 F1) := hid (o1.mono HB.out.size); have HOW1 := hid (HOW.out.below b1); have HB1 : Hid (Below w.heap.size w w1) := hid (bel_on HB.out b1); have HC1 : Hid (M1 ≤ cap1) := hc1; clear o1 b1 hc1) | (go_at_call 14; refine (HQ2.out _ ad1 cap1 HB1.out HON1.out.row HC1.out).mono ?_; rintro e w2 ⟨ad2, cap2, rfl, o2, b2⟩; have HS2 := hid o2; have HON2 := hid (HON1.out.below b2); have HOW2 := hid (HOW1.out.below b2); have HB2 : Hid (Below w.heap.size w w2) := hid (bel_on HB1.out b2); clear o2 b2) | (go_at_call 45; refine (HQ3.out _ ad2 cap2 HB2.out HS2.out).mono ?_; rintro e w3 ⟨rfl, b3⟩; have HON3 := hid (HON2.out.below b3); have HOW3 := hid (HOW2.out.below b3); have HB3 : Hid (Below w.heap.size w w3) := hid (bel_on HB2.out b3); clear b3))
            go_roundw
            case rel => exact ⟨k + 1, R + 1, M, cap, ad, F, L, by omega, by go_num, rfl, rfl, hid (by have := HRK.out; omega), HOW3.out, HBI2, HB3⟩
            case measure => simp [intOf]; omega
    · obtain rfl : R = 5 := by omega
      have hk4 : k = 4 := by have := HRK.out; omega
      subst hk4
      have HEN := hid (bsi_end HBI.out HOW.out)
      obtain rfl := HEN.out.1
      obtain rfl := HEN.out.2.1
      go_wp2
      go_returns
      first | exact ⟨_, _, rfl, HEN.out.2.2, HB.out⟩ | exact ⟨_, ⟨_, rfl⟩, HEN.out.2.2, HB.out⟩
end Go.Proofs.Ytogolmbgboihdaa
