/- l10DrawRules. -/
import Derived.Test.YtbhghghkgojpgaaXr
namespace Go.Proofs.Ytbhghghkgojpgaa
open Go Go.ChangeShapes Go.WideShapes Go.ChangeAt Go.RowKit
set_option linter.unusedVariables false
set_option linter.unusedSimpArgs false

/-- What stands while the rules drawn so far are tried with one more. -/
structure SK (w w5 : World) (b g k oc : Nat) (c : Nat → T5) (s : ByteArray) (fr to ra kd : Int) (W : World) : Prop where
  rw : RW b b w w.heap.size g k oc c W
  cr : CB W w5.heap.size #[.string s, .int .i64 fr, .int .i64 to, .int .i64 ra, .int .i64 kd] 79
section
variable {w w5 W W' : World} {b g k oc : Nat} {c : Nat → T5} {s : ByteArray} {fr to ra kd : Int}
theorem SK.below (h : SK w w5 b g k oc c s fr to ra kd W) (bl : Below W.heap.size W W') : SK w w5 b g k oc c s fr to ra kd W' := ⟨h.rw.below bl, h.cr.below bl h.cr.lt⟩
theorem SK.alloc (h : SK w w5 b g k oc c s fr to ra kd W) (o : Obj) : SK w w5 b g k oc c s fr to ra kd (W.alloc o) := h.below ((Below.refl _ _).alloc (Nat.le_refl _) o)
theorem SK.drewS (h : SK w w5 b g k oc c s fr to ra kd W) : SK w w5 b g k oc c s fr to ra kd W.drew := h.below (Below.refl _ _).drew
theorem SK.cells (h : SK w w5 b g k oc c s fr to ra kd W) : W.cell? ⟨w5.heap.size, 0, none⟩ = some (.string s) ∧ W.cell? ⟨w5.heap.size, 1, none⟩ = some (.int .i64 fr) ∧ W.cell? ⟨w5.heap.size, 2, none⟩ = some (.int .i64 to) ∧ W.cell? ⟨w5.heap.size, 3, none⟩ = some (.int .i64 ra) ∧ W.cell? ⟨w5.heap.size, 4, none⟩ = some (.int .i64 kd) := ⟨(h.cr.cell 0).trans rfl, (h.cr.cell 1).trans rfl, (h.cr.cell 2).trans rfl, (h.cr.cell 3).trans rfl, (h.cr.cell 4).trans rfl⟩
end
theorem CB.grB {w w' : World} {row : Option Nat} {b : Nat} {cs : Array Value} {t : TypeId} (h : CB w b cs t) (g : w.grownBy w' row) (hb : some b ≠ row) : CB w' b cs t := by
  unfold CB at h ⊢; rw [g.block b (lt_of_block h) hb]; exact h
theorem cb_src {w : World} {b : Nat} {l : List Value} {t : TypeId} (h : CB w b l.toArray t) : ∀ j u, l[j]? = some u → w.cell? ((⟨b, 0, none⟩ : Addr).add j) = some u := by
  intro j u hj
  have e : (⟨b, 0, none⟩ : Addr).add j = ⟨b, j, none⟩ := by simp only [Addr.add]; by_cases q : j = 0 <;> simp [q]
  rw [e, h.cell]; simpa using hj
theorem cat_sz {t : ByteArray} (a : UInt8) (h : t.size ≤ 4) : ((⟨#[a]⟩ : ByteArray) ++ t).size ≤ 60 := by rw [ByteArray.size_append]; show 1 + t.size ≤ 60; omega

set_option maxRecDepth 20000 in
set_option maxHeartbeats 8000000 in
theorem drawRules_any (b : Nat) (w : World) (hc : Cursor w b) :
    Calls Try.prog 38 #[.pointer (some ⟨b, 0, none⟩)] w fun e w' => ∃ g k oc c, e = .returned (.slice (some ⟨g, 0, none⟩) k oc) ∧ k ≤ 6 ∧ RW b b w w.heap.size g k oc c w' := by
  obtain ⟨i0, hi, hz0, hz1, hz2⟩ := info79
  have HC : Hid (Cursor w b) := hc
  have hb := hc.lt
  clear hc
  go_enter Try.func38, Try.ntmps38
  go_wp2_with (go_at_call 41; go_loud (refine (below_any b _ _ (HC.out.alloc _)).mono ?_); rintro e w1 ⟨x, rfl, x0, x1, _, m1⟩; have x2 := x1 (by decide); have HW1 : Hid (RW b b w w.heap.size w.heap.size 0 0 (fun _ => ⟨ByteArray.empty, 0, 0, 0, 0⟩) w1) := hid (RW.moved (W := w.alloc (.cells #[] 79 (0, 0))) ⟨HC.out.alloc _, (Below.refl _ _).alloc (Nat.le_of_lt hb) _, ⟨rfl, .inr ⟨w.heap.size, 0, #[], rfl, Nat.le_refl _, CB.new _ _, Nat.le_refl _, Nat.zero_le _, rfl, rfl⟩⟩, fun j => Nat.zero_le _, hb, Nat.le_refl _, Nat.le_of_lt hb⟩ m1); clear m1 x1)
  obtain ⟨N, hN⟩ : ∃ N : Nat, 1 + x = (N : Int) := ⟨(1 + x).toNat, by omega⟩
  rw [hN]
  have hN6 : N ≤ 6 := by omega
  clear hN x0 x2
  go_loopw [3, 4] (fun v n wr => ∃ (g k oc q : Nat) (c : Nat → T5), v = .slice (some ⟨g, 0, none⟩) k oc ∧ n = .int .i64 (q : Int) ∧ k + q ≤ 6 ∧ Hid (RW b b w w.heap.size g k oc c wr)) (fun _ n _ => (intOf n).toNat)
  case atStart => exact ⟨_, 0, 0, N, _, rfl, rfl, by omega, HW1⟩
  case round =>
    obtain ⟨g, k, oc, q, c, rfl, rfl, hkq, HW⟩ := hrel
    obtain ⟨wo, rfl⟩ : ∃ x, x = wr := ⟨wr, rfl⟩
    by_cases hq : 0 < q
    · have hq2 : (0 : Int) < (q : Int) := by omega
      have hk2 : (k : Int) ≤ 6 := by omega
      have tk1 : True := trivial
      have tk2 : True := trivial
      go_wp2_with (first | (go_at_call 75; refine (pickS_any b wo.heap.size 5 _ _ (HW.out.cur.alloc _) (CB.new _ _) (by have := HW.out.cur.lt; omega) (by omega) (fun j hj => by rcases (by omega : j = 0 ∨ j = 1 ∨ j = 2 ∨ j = 3 ∨ j = 4) with rfl | rfl | rfl | rfl | rfl <;> exact ⟨_, rfl, by decide⟩)).mono ?_; rintro e w1 ⟨⟨t, rfl, ht⟩, m1⟩; have R1 : Hid (RW b b w w.heap.size g k oc c w1) := HW.out.moved (turns_new m1); clear m1) | (go_at_call 44; clear tk1; refine (pick_any b _ [40000, 300] _ _ _ (R1.out.cur.alloc _) (IntRow.made R1.out.cur.lt _ _ _ rfl) rfl (by decide) (by decide)).mono ?_; rintro e w2 ⟨to, rfl, _, m2⟩; have R2 : Hid (RW b b w w.heap.size g k oc c w2) := R1.out.moved (turns_new m2); clear m2) | (go_at_call 41; clear tk2; refine (below_any b _ _ R2.out.cur).mono ?_; rintro e w3 ⟨x, rfl, x0, x1, _, m3⟩; have x2 := x1 (by decide); have R3 : Hid (RW b b w w.heap.size g k oc c w3) := R2.out.moved m3; clear m3 x1) | (go_at_call 44; refine (pick_any b _ [19000, 7000, 0, 21000, 500, x] _ _ _ (R3.out.cur.alloc _) (IntRow.made R3.out.cur.lt _ _ _ rfl) rfl (by simp) (by simp)).mono ?_; rintro e w4 ⟨ra, rfl, _, m4⟩; have R4 : Hid (RW b b w w.heap.size g k oc c w4) := R3.out.moved (turns_new m4); clear m4) | (go_at_call 41; refine (below_any b _ _ R4.out.cur).mono ?_; rintro e w5 ⟨y, rfl, y0, y1, _, m5⟩; have y2 := y1 (by decide); have R5 : Hid (RW b b w w.heap.size g k oc c w5) := R4.out.moved m5; clear m5 y1))
      obtain ⟨kd, hkd⟩ : ∃ z, z = 1 + y := ⟨_, rfl⟩
      rw [← hkd]
      clear hkd y0 y2 x0 x2
      have HG5 : Hid (g < w5.heap.size ∧ b < w5.heap.size) := ⟨R5.out.gge.2, R5.out.cur.lt⟩
      go_loopw [6] (fun i wr => ∃ (j : Nat) (s : ByteArray) (fr : Int), j ≤ k ∧ i = .int .i64 (j : Int) ∧ s.size ≤ 60 ∧ CB wr w5.heap.size #[.string s, .int .i64 fr, .int .i64 to, .int .i64 ra, .int .i64 kd] 79 ∧ Hid (RW b b w w.heap.size g k oc c wr)) (fun i _ => k - (intOf i).toNat)
      case atStart => exact ⟨0, t, 0, Nat.zero_le _, rfl, by omega, CB.new _ _, R5.out.alloc _⟩
      case round =>
        obtain ⟨j, s, fr, hj, rfl, hs, hR, HX⟩ := hrel
        obtain ⟨wi, rfl⟩ : ∃ x, x = wr := ⟨wr, rfl⟩
        have HS : Hid (s.size ≤ 60) := hs
        clear hs
        by_cases hjk : j < k
        · have hjk2 : (j : Int) < (k : Int) := by omega
          obtain ⟨c0, c1, c2, c3, c4⟩ := HX.out.tr.cell hjk
          simp only [Nat.zero_add] at c0 c1 c2 c3 c4
          have r0 := (hR.cell 0).trans rfl
          obtain ⟨s2, hs2⟩ : ∃ z, (c j).code = z := ⟨_, rfl⟩
          obtain ⟨to2, hto2⟩ : ∃ z, (c j).to = z := ⟨_, rfl⟩
          rw [hs2] at c0
          rw [hto2] at c2
          have HR : Hid (CB wi w5.heap.size #[.string s, .int .i64 fr, .int .i64 to, .int .i64 ra, .int .i64 kd] 79) := hR
          clear hR hs2 hto2 c1 c3 c4
          by_cases ge : s2 = s
          · have e1 := lists_t ge
            clear ge
            go_wp2
            go_quiet (fail)
            have z2 : (wi.drewN nq).cell? ⟨g, j * 5 + 2, none⟩ = some (.int .i64 to2) := c2
            have HR2 : Hid (CB (wi.drewN nq) w5.heap.size #[.string s, .int .i64 fr, .int .i64 to, .int .i64 ra, .int .i64 kd] 79) := HR
            have HX2 : Hid (RW b b w w.heap.size g k oc c (wi.drewN nq)) := HX.out.dN nq
            clear c0 c2 r0 HR HX
            generalize wi.drewN nq = wq at z2 HR2 HX2 ⊢
            have r2 := (HR2.out.cell 2).trans rfl
            have r1 := (HR2.out.cell 1).trans rfl
            have r0 := (HR2.out.cell 0).trans rfl
            have f1 := HR2.out.fr 1
            have f0 := HR2.out.fr 0
            by_cases h3 : to2 = 300 ∧ to ≠ 300
            · have e3 := eq_t h3.1
              have e4 := eq_f h3.2
              clear h3
              go_wp2
              go_roundw
              case rel => exact ⟨j + 1, s, 301, by omega, by go_num, HS.out, HR2.out.set 1 _, HX2.out.set _ (by have := HG5.out.1; omega) HG5.out.2 HR2.out.lt⟩
              case measure => simp [intOf]; omega
            · have e5 : ((to2 == 300) && !(to == 300)) = false := by
                rw [Bool.eq_false_iff]; intro hh; apply h3; simpa using hh
              have hq9 : q < 100 := by omega
              by_cases h4 : to2 = 300
              · have e3 := eq_t h4
                have e4 : (to == 300) = true := by
                  by_cases h5 : to = 300
                  · exact eq_t h5
                  · exact absurd ⟨h4, h5⟩ h3
                clear h3 h4 e5
                go_wp2_with (go_at_call 76; refine (text_any q _ hq9).mono ?_; rintro e w6 ⟨⟨tx, rfl, htx⟩, qq, rfl⟩; have HTX : Hid (tx.size ≤ 4) := htx; have hcat : ((⟨#[116]⟩ : ByteArray) ++ tx).size ≤ 60 := cat_sz 116 htx; have htx2 : (tx.size : Int) ≤ 4 := (by omega); have HC6 : Hid (CB (wq.drewN qq) w5.heap.size #[.string s, .int .i64 fr, .int .i64 to, .int .i64 ra, .int .i64 kd] 79) := HR2; have HW6 : Hid (RW b b w w.heap.size g k oc c (wq.drewN qq)) := HX2.out.dN qq; have k0 : (wq.drewN qq).cell? ⟨w5.heap.size, 0, none⟩ = some (.string s) := r0; have kf : (wq.drewN qq).frozen? ⟨w5.heap.size, 0, none⟩ = false := f0; clear htx)
                go_roundw
                case rel => exact ⟨j + 1, (⟨#[116]⟩ : ByteArray) ++ tx, fr, by omega, by go_num, hcat, HC6.out.set 0 _, HW6.out.set _ (by have := HG5.out.1; omega) HG5.out.2 HC6.out.lt⟩
                case measure => simp [intOf]; omega
              · have e3 := eq_f h4
                clear h3 h4 e5
                go_wp2_with (go_at_call 76; refine (text_any q _ hq9).mono ?_; rintro e w6 ⟨⟨tx, rfl, htx⟩, qq, rfl⟩; have HTX : Hid (tx.size ≤ 4) := htx; have hcat : ((⟨#[116]⟩ : ByteArray) ++ tx).size ≤ 60 := cat_sz 116 htx; have htx2 : (tx.size : Int) ≤ 4 := (by omega); have HC6 : Hid (CB (wq.drewN qq) w5.heap.size #[.string s, .int .i64 fr, .int .i64 to, .int .i64 ra, .int .i64 kd] 79) := HR2; have HW6 : Hid (RW b b w w.heap.size g k oc c (wq.drewN qq)) := HX2.out.dN qq; have k0 : (wq.drewN qq).cell? ⟨w5.heap.size, 0, none⟩ = some (.string s) := r0; have kf : (wq.drewN qq).frozen? ⟨w5.heap.size, 0, none⟩ = false := f0; clear htx)
                go_roundw
                case rel => exact ⟨j + 1, (⟨#[116]⟩ : ByteArray) ++ tx, fr, by omega, by go_num, hcat, HC6.out.set 0 _, HW6.out.set _ (by have := HG5.out.1; omega) HG5.out.2 HC6.out.lt⟩
                case measure => simp [intOf]; omega
          · have e1 := lists_f ge
            clear ge
            go_wp2
            go_quiet (fail)
            go_wp2
            go_roundw
            case rel => exact ⟨j + 1, s, fr, by omega, by go_num, HS.out, HR.out, HX.out.dN _⟩
            case measure => simp [intOf]; omega
        · obtain rfl : j = k := by omega
          have lkk : ¬ (j : Int) < (j : Int) := by omega
          have SK0 : Hid (SK w w5 b g j oc c s fr to ra kd wi) := ⟨HX.out, hR⟩
          clear hR
          go_wp2
          refine wp_region_noPanic ?_
          refine wp_region_held_drew (S := fun w' => w'.cell? ⟨w5.heap.size, 0, none⟩ = some (.string s) ∧ w'.cell? ⟨w5.heap.size, 1, none⟩ = some (.int .i64 fr) ∧ w'.cell? ⟨w5.heap.size, 2, none⟩ = some (.int .i64 to) ∧ w'.cell? ⟨w5.heap.size, 3, none⟩ = some (.int .i64 ra) ∧ w'.cell? ⟨w5.heap.size, 4, none⟩ = some (.int .i64 kd)) (by kernel_rfl) (by exact SK0.out.drewS.cells) (fun hHeld => ?_)
          refine wpAnyH_take (i := 1) (oi := { dst := some 61, op := Go.Op.move (Go.Operand.tmp 3), type := 24, pos := "l10_tax.go:177", after := #[], guard := none }) (v := ?_) rfl (by kernel_rfl) (by kernel_rfl) (by kernel_rfl) (fun _ _ _ h => h) (Or.inl ⟨by rfl, ?_⟩) (by assumption) ?_
          rotate_left
          · (intro w hSw; (try dsimp only at hSw); go_simp <;> try with_reducible rfl)
          try simp only [Act.put, List.setIfInBounds_toArray, List.set_cons_zero, List.set_cons_succ]
          refine wpAnyH_take (i := 3) (oi := { dst := some 63, op := Go.Op.load 79 (Go.Operand.tmp 5), type := 79, pos := "l10_tax.go:177", after := #[], guard := none }) (v := ?_) rfl (by kernel_rfl) (by kernel_rfl) (by kernel_rfl) (fun _ _ _ h => h) (Or.inl ⟨by rfl, ?_⟩) (by assumption) ?_
          rotate_left
          · (intro w hSw; (try dsimp only at hSw); go_simp <;> try with_reducible rfl)
          try simp only [Act.put, List.setIfInBounds_toArray, List.set_cons_zero, List.set_cons_succ]
          refine wpAnyH_ready (rs := [0, 4]) (by kernel_rfl) (by simp) ?_
          refine AllReadyH.cons (o := { dst := some 60, op := Go.Op.buildSlice 24 0 #[], type := 24, pos := "l10_tax.go:177", after := #[], guard := none }) rfl (fun K hK => ?_) (AllReadyH.cons (o := { dst := some 64, op := Go.Op.buildSlice 24 1 #[(0, Go.Operand.tmp 63)], type := 24, pos := "l10_tax.go:177", after := #[{ on := 3, ground := Go.Ground.data }], guard := none }) rfl (fun K hK => ?_) (AllReadyH.nil))
          · go_simp
            refine hK.out _ _ (by exact (SK0.out.drewS.alloc _).cells) (fun hHeld => ?_)
            clear hK K
            try simp only [Act.put, List.setIfInBounds_toArray, List.set_cons_zero, List.set_cons_succ]
            refine wpAnyH_ready (rs := [2, 4]) (by kernel_rfl) (by simp) ?_
            refine AllReadyH.cons (o := { dst := some 62, op := Go.Op.call { callee := Go.Callee.builtin Go.Builtin.append, args := #[Go.Operand.tmp 60, Go.Operand.tmp 61], argTypes := #[24, 24] }, type := 24, pos := "l10_tax.go:177", after := #[{ on := 0, ground := Go.Ground.data }, { on := 1, ground := Go.Ground.data }], guard := none }) rfl (fun K hK => ?_) (AllReadyH.cons (o := { dst := some 64, op := Go.Op.buildSlice 24 1 #[(0, Go.Operand.tmp 63)], type := 24, pos := "l10_tax.go:177", after := #[{ on := 3, ground := Go.Ground.data }], guard := none }) rfl (fun K hK => ?_) (AllReadyH.nil))
            · have KE1 := (show CB (wi.alloc (.cells #[] 79 (0, 0))) wi.heap.size #[] 79 from CB.new _ _); have KE2 := CB.below KE1 (Below.refl _ _).drew KE1.lt; have OW0 : (wi.alloc (.cells #[] 79 (0, 0))).drew.ownsRow (wi.heap.size) 79 5 (.slice (some ⟨wi.heap.size, 0, none⟩) 0 0) 0 [] := ⟨rfl, .inr ⟨wi.heap.size, 0, #[], rfl, Nat.le_refl _, KE2, Nat.le_refl _, Nat.zero_le _, rfl, rfl⟩⟩
              rw [if_pos (by rfl)]
              refine oper_append (Operand.tmp 60) (Operand.tmp 61) 24 rfl wi.heap.size 79 i0 (.agg #[.string ByteArray.empty, .int .i64 0, .int .i64 0, .int .i64 0, .int .i64 0]) 5 48 Try.underlying24 hi hz0 hz1 hz2 rfl (by decide) (.slice (some ⟨wi.heap.size, 0, none⟩) 0 0) 0 [] rfl OW0 ⟨g, 0, none⟩ j oc (fl5 c j) rfl (fl5_len c j) (fl5_src (SK0.out.rw.tr.below ((Below.refl wi.heap.size wi).alloc (Nat.le_refl _) (.cells #[] 79 (0, 0))).drew)) (fl5_one c j) (by unfold maxLen; omega) (by omega) (by first | (simp; done) | (simp; omega)) ?_
              intro v7 w9 hown hgrow _
              simp only [Nat.zero_add, List.nil_append] at hown
              obtain ⟨xa, xc, rfl⟩ := arow_form hown
              have b9 : Below wi.heap.size wi w9 := bel_grown ((Below.refl wi.heap.size wi).alloc (Nat.le_refl _) (.cells #[] 79 (0, 0))).drew (Nat.le_refl _) hgrow (fun q hq => by simp [Value.ownBlock] at hq; omega)
              have S9 : Hid (SK w w5 b g j oc c s fr to ra kd w9) := SK0.out.below b9
              refine hK.out _ _ (by exact S9.out.cells) (fun hHeld => ?_)
              clear hK K
              try simp only [Act.put, List.setIfInBounds_toArray, List.set_cons_zero, List.set_cons_succ]
              refine wpAnyH_ready (rs := [4]) (by kernel_rfl) (by simp) ?_
              refine AllReadyH.cons (o := { dst := some 64, op := Go.Op.buildSlice 24 1 #[(0, Go.Operand.tmp 63)], type := 24, pos := "l10_tax.go:177", after := #[{ on := 3, ground := Go.Ground.data }], guard := none }) rfl (fun K hK => ?_) (AllReadyH.nil)
              go_simp
              refine hK.out _ _ (by exact (S9.out.alloc _).cells) (fun hHeld => ?_)
              clear hK K
              try simp only [Act.put, List.setIfInBounds_toArray, List.set_cons_zero, List.set_cons_succ]
              refine wpAnyH_ready (rs := [5]) (by kernel_rfl) (by simp) ?_
              refine AllReadyH.cons (o := { dst := some 65, op := Go.Op.call { callee := Go.Callee.builtin Go.Builtin.append, args := #[Go.Operand.tmp 62, Go.Operand.tmp 64], argTypes := #[24, 24] }, type := 24, pos := "l10_tax.go:177", after := #[{ on := 2, ground := Go.Ground.data }, { on := 4, ground := Go.Ground.data }, { on := 2, ground := Go.Ground.chain }], guard := none }) rfl (fun K hK => ?_) (AllReadyH.nil)
              rw [if_pos (by rfl)]
              refine oper_append (Operand.tmp 62) (Operand.tmp 64) 24 rfl wi.heap.size 79 i0 (.agg #[.string ByteArray.empty, .int .i64 0, .int .i64 0, .int .i64 0, .int .i64 0]) 5 48 Try.underlying24 hi hz0 hz1 hz2 rfl (by decide) (.slice xa j xc) j (fl5 c j) rfl (arow_keep hown ((Below.refl _ _).alloc (Nat.le_refl _) _)) ⟨w9.heap.size, 0, none⟩ 1 1 [.string s, .int .i64 fr, .int .i64 to, .int .i64 ra, .int .i64 kd] rfl rfl (acells_at rfl) (fun u hu => by simp at hu; rcases hu with rfl | rfl | rfl | rfl | rfl <;> rfl) (by unfold maxLen; omega) (by omega) (by have h1 := hgrow.size; (try simp at h1); have := b9.size; (try simp); omega) ?_
              intro v8 w10 hown2 hgrow2 _
              obtain ⟨ya, yc, rfl⟩ := arow_form hown2
              have b10 : Below wi.heap.size wi w10 := bel_grown (b9.alloc b9.size (.cells #[.string s, .int .i64 fr, .int .i64 to, .int .i64 ra, .int .i64 kd] 79 (0, 0))) (Nat.le_refl _) hgrow2 (fun q hq => by have := (hown.lt q hq).1; omega)
              have S10 : Hid (SK w w5 b g j oc c s fr to ra kd w10) := SK0.out.below b10
              have T10 : Hid (TR w10 ya (j + 1) (cAdd c j ⟨s, fr, to, ra, kd⟩)) := hid (row_TR (base := wi.heap.size) (by rw [fl5_add]; exact hown2))
              refine hK.out _ _ (by exact S10.out.cells) (fun hHeld => ?_)
              clear hK K
              try simp only [Act.put, List.setIfInBounds_toArray, List.set_cons_zero, List.set_cons_succ]
              refine wpAnyH_ready (rs := [6]) (by kernel_rfl) (by simp) ?_
              refine AllReadyH.cons (o := { dst := some 66, op := Go.Op.call { callee := Go.Callee.value (Go.Operand.func 17), args := #[Go.Operand.tmp 65], argTypes := #[24] }, type := 4, pos := "l10_tax.go:177", after := #[{ on := 5, ground := Go.Ground.data }, { on := 5, ground := Go.Ground.chain }], guard := none }) rfl (fun K hK => ?_) (AllReadyH.nil)
              go_simp
              refine (specRules_any _ _ _ (cAdd c j ⟨s, fr, to, ra, kd⟩) _ (by omega) (fun i => by have := cAdd_sz (k := j) S10.out.rw.sz (x := ⟨s, fr, to, ra, kd⟩) HS.out i; unfold maxLen; omega) T10.out).mono ?_
              rintro e w11 ⟨rfl, d11⟩
              have S11 : Hid (SK w w5 b g j oc c s fr to ra kd w11) := S10.out.below d11
              clear d11
              first | refine hK.out _ _ (by exact S11.out.cells) (fun hHeld => ?_) | (go_wp2_with fail; refine hK.out _ _ (by exact S11.out.cells) (fun hHeld => ?_))
              clear hK K
              try simp only [Act.put, List.setIfInBounds_toArray, List.set_cons_zero, List.set_cons_succ]
              generalize trB (j + 1) (cAdd c j ⟨s, fr, to, ra, kd⟩) = v at hHeld ⊢
              refine wpAnyH_take (i := 7) (oi := { dst := some 67, op := Go.Op.unOp Go.UnOp.not 4 (Go.Operand.tmp 66), type := 4, pos := "l10_tax.go:177", after := #[{ on := 6, ground := Go.Ground.data }], guard := none }) (v := ?_) rfl (by kernel_rfl) (by kernel_rfl) (by kernel_rfl) (fun _ _ _ h => h) (Or.inl ⟨by rfl, ?_⟩) (by assumption) ?_
              rotate_left
              · (intro w hSw; (try dsimp only at hSw); go_simp <;> try with_reducible rfl)
              try simp only [Act.put, List.setIfInBounds_toArray, List.set_cons_zero, List.set_cons_succ]
              refine wpAnyH_done (by kernel_rfl) ?_ _
              refine NoPanic.normal ?_
              clear hHeld SK0 S10 S9
              have a0 := (S11.out.cr.cell 0).trans rfl
              have a1 := (S11.out.cr.cell 1).trans rfl
              have a2 := (S11.out.cr.cell 2).trans rfl
              have a3 := (S11.out.cr.cell 3).trans rfl
              have a4 := (S11.out.cr.cell 4).trans rfl
              have f0 := S11.out.cr.fr 0
              have hq9 : q < 100 := by omega
              cases v
              · go_wp2_with (first | (go_at_call 76; refine (text_any q _ hq9).mono ?_; rintro e w6 ⟨⟨tx, rfl, htx⟩, qq, rfl⟩; have hcat : ((⟨#[117]⟩ : ByteArray) ++ tx).size ≤ 60 := cat_sz 117 htx; have htx2 : (tx.size : Int) ≤ 4 := (by omega); have RX : Hid (RW b b w w.heap.size g j oc c ((w11.drewN qq).setCell ⟨w5.heap.size, 0, none⟩ (.string ((⟨#[117]⟩ : ByteArray) ++ tx)))) := hid ((S11.out.rw.dN qq).set _ (by have := HG5.out.1; omega) HG5.out.2 S11.out.cr.lt); have k0 : (w11.drewN qq).cell? ⟨w5.heap.size, 0, none⟩ = some (.string s) := a0; have k1 : (w11.drewN qq).cell? ⟨w5.heap.size, 1, none⟩ = some (.int .i64 fr) := a1; have k2 : (w11.drewN qq).cell? ⟨w5.heap.size, 2, none⟩ = some (.int .i64 to) := a2; have k3 : (w11.drewN qq).cell? ⟨w5.heap.size, 3, none⟩ = some (.int .i64 ra) := a3; have k4 : (w11.drewN qq).cell? ⟨w5.heap.size, 4, none⟩ = some (.int .i64 kd) := a4; have kf : (w11.drewN qq).frozen? ⟨w5.heap.size, 0, none⟩ = false := f0; clear htx) | (at_builtin; go_loud (refine wpList_append_own_at _ rfl _ _ 24 rfl w.heap.size 79 i0 (.agg #[.string ByteArray.empty, .int .i64 0, .int .i64 0, .int .i64 0, .int .i64 0]) 5 48 Try.underlying24 hi hz0 hz1 hz2 rfl (by decide) (.slice (some ⟨g, 0, none⟩) j oc) j (fl5 c j) rfl (arow_keep RX.out.own ((Below.refl _ _).alloc (Nat.le_refl _) _)) ⟨w11.heap.size, 0, none⟩ 1 1 [.string ((⟨#[117]⟩ : ByteArray) ++ tx), .int .i64 fr, .int .i64 to, .int .i64 ra, .int .i64 kd] rfl rfl (acells_at (by simp [World.setCell])) (fun u hu => by simp at hu; rcases hu with rfl | rfl | rfl | rfl | rfl <;> rfl) (by unfold maxLen; omega) (by omega) (by have := RX.out.gge; (try simp [World.setCell]); (try simp [World.setCell] at this); omega) ?_); intro v9 w12 hown3 hgrow3 hnil3 hat3; obtain ⟨za, zc, rfl⟩ := arow_form hown3; obtain ⟨g9, rfl⟩ := some_of hown3 (by omega); have RZ : Hid (RW b b w w.heap.size g9 (j + 1) zc (cAdd c j ⟨((⟨#[117]⟩ : ByteArray) ++ tx), fr, to, ra, kd⟩) w12) := hid (RX.out.grow hgrow3 (by rw [fl5_add]; exact hown3) (cAdd_sz RX.out.sz hcat)); clear hown3 hgrow3 hnil3 hat3))
                go_roundw
                case rel => exact ⟨g9, j + 1, zc, q - 1, _, rfl, by go_num, by omega, RZ⟩
                case measure => simp [intOf]; omega
              · have RX : Hid (RW b b w w.heap.size g j oc c w11) := S11.out.rw
                go_wp2_with ((at_builtin; go_loud (refine wpList_append_own_at _ rfl _ _ 24 rfl w.heap.size 79 i0 (.agg #[.string ByteArray.empty, .int .i64 0, .int .i64 0, .int .i64 0, .int .i64 0]) 5 48 Try.underlying24 hi hz0 hz1 hz2 rfl (by decide) (.slice (some ⟨g, 0, none⟩) j oc) j (fl5 c j) rfl (arow_keep RX.out.own ((Below.refl _ _).alloc (Nat.le_refl _) _)) ⟨w11.heap.size, 0, none⟩ 1 1 [.string s, .int .i64 fr, .int .i64 to, .int .i64 ra, .int .i64 kd] rfl rfl (acells_at (by simp [World.setCell])) (fun u hu => by simp at hu; rcases hu with rfl | rfl | rfl | rfl | rfl <;> rfl) (by unfold maxLen; omega) (by omega) (by have := RX.out.gge; (try simp [World.setCell]); (try simp [World.setCell] at this); omega) ?_); intro v9 w12 hown3 hgrow3 hnil3 hat3; obtain ⟨za, zc, rfl⟩ := arow_form hown3; obtain ⟨g9, rfl⟩ := some_of hown3 (by omega); have RZ : Hid (RW b b w w.heap.size g9 (j + 1) zc (cAdd c j ⟨s, fr, to, ra, kd⟩) w12) := hid (RX.out.grow hgrow3 (by rw [fl5_add]; exact hown3) (cAdd_sz RX.out.sz HS.out)); clear hown3 hgrow3 hnil3 hat3))
                go_roundw
                case rel => exact ⟨g9, j + 1, zc, q - 1, _, rfl, by go_num, by omega, RZ⟩
                case measure => simp [intOf]; omega
            · go_simp
              refine hK.out _ _ (by exact ((SK0.out.drewS.alloc _).alloc _).cells) (fun hHeld => ?_)
              clear hK K
              try simp only [Act.put, List.setIfInBounds_toArray, List.set_cons_zero, List.set_cons_succ]
              refine wpAnyH_ready (rs := [2]) (by kernel_rfl) (by simp) ?_
              refine AllReadyH.cons (o := { dst := some 62, op := Go.Op.call { callee := Go.Callee.builtin Go.Builtin.append, args := #[Go.Operand.tmp 60, Go.Operand.tmp 61], argTypes := #[24, 24] }, type := 24, pos := "l10_tax.go:177", after := #[{ on := 0, ground := Go.Ground.data }, { on := 1, ground := Go.Ground.data }], guard := none }) rfl (fun K hK => ?_) (AllReadyH.nil)
              have KE1 := (show CB ((wi.alloc (.cells #[] 79 (0, 0))).alloc (.cells #[.string s, .int .i64 fr, .int .i64 to, .int .i64 ra, .int .i64 kd] 79 (0, 0))) wi.heap.size #[] 79 from CB.alloc (CB.new _ _) _); have KE2 := CB.below KE1 (Below.refl _ _).drew KE1.lt; have OW0 : ((wi.alloc (.cells #[] 79 (0, 0))).alloc (.cells #[.string s, .int .i64 fr, .int .i64 to, .int .i64 ra, .int .i64 kd] 79 (0, 0))).drew.ownsRow (wi.heap.size) 79 5 (.slice (some ⟨wi.heap.size, 0, none⟩) 0 0) 0 [] := ⟨rfl, .inr ⟨wi.heap.size, 0, #[], rfl, Nat.le_refl _, KE2, Nat.le_refl _, Nat.zero_le _, rfl, rfl⟩⟩
              rw [if_pos (by rfl)]
              refine oper_append (Operand.tmp 60) (Operand.tmp 61) 24 rfl wi.heap.size 79 i0 (.agg #[.string ByteArray.empty, .int .i64 0, .int .i64 0, .int .i64 0, .int .i64 0]) 5 48 Try.underlying24 hi hz0 hz1 hz2 rfl (by decide) (.slice (some ⟨wi.heap.size, 0, none⟩) 0 0) 0 [] rfl OW0 ⟨g, 0, none⟩ j oc (fl5 c j) rfl (fl5_len c j) (fl5_src (SK0.out.rw.tr.below (((Below.refl wi.heap.size wi).alloc (Nat.le_refl _) (.cells #[] 79 (0, 0))).alloc (by simp) (.cells #[.string s, .int .i64 fr, .int .i64 to, .int .i64 ra, .int .i64 kd] 79 (0, 0))).drew)) (fl5_one c j) (by unfold maxLen; omega) (by omega) (by first | (simp; done) | (simp; omega)) ?_
              intro v7 w9 hown hgrow _
              simp only [Nat.zero_add, List.nil_append] at hown
              obtain ⟨xa, xc, rfl⟩ := arow_form hown
              have b9 : Below wi.heap.size wi w9 := bel_grown (((Below.refl wi.heap.size wi).alloc (Nat.le_refl _) (.cells #[] 79 (0, 0))).alloc (by simp) (.cells #[.string s, .int .i64 fr, .int .i64 to, .int .i64 ra, .int .i64 kd] 79 (0, 0))).drew (Nat.le_refl _) hgrow (fun q hq => by simp [Value.ownBlock] at hq; omega)
              have S9 : Hid (SK w w5 b g j oc c s fr to ra kd w9) := SK0.out.below b9
              have CQ1 : CB ((wi.alloc (.cells #[] 79 (0, 0))).alloc (.cells #[.string s, .int .i64 fr, .int .i64 to, .int .i64 ra, .int .i64 kd] 79 (0, 0))) (wi.heap.size + 1) #[.string s, .int .i64 fr, .int .i64 to, .int .i64 ra, .int .i64 kd] 79 := CB.newAt (by simp) _ _; have CQ2 := CB.below CQ1 (Below.refl _ _).drew CQ1.lt; have CR1 : CB w9 (wi.heap.size + 1) #[.string s, .int .i64 fr, .int .i64 to, .int .i64 ra, .int .i64 kd] 79 := CQ2.grB hgrow (by simp [Value.ownBlock])
              refine hK.out _ _ (by exact S9.out.cells) (fun hHeld => ?_)
              clear hK K
              try simp only [Act.put, List.setIfInBounds_toArray, List.set_cons_zero, List.set_cons_succ]
              refine wpAnyH_ready (rs := [5]) (by kernel_rfl) (by simp) ?_
              refine AllReadyH.cons (o := { dst := some 65, op := Go.Op.call { callee := Go.Callee.builtin Go.Builtin.append, args := #[Go.Operand.tmp 62, Go.Operand.tmp 64], argTypes := #[24, 24] }, type := 24, pos := "l10_tax.go:177", after := #[{ on := 2, ground := Go.Ground.data }, { on := 4, ground := Go.Ground.data }, { on := 2, ground := Go.Ground.chain }], guard := none }) rfl (fun K hK => ?_) (AllReadyH.nil)
              rw [if_pos (by rfl)]
              refine oper_append (Operand.tmp 62) (Operand.tmp 64) 24 rfl wi.heap.size 79 i0 (.agg #[.string ByteArray.empty, .int .i64 0, .int .i64 0, .int .i64 0, .int .i64 0]) 5 48 Try.underlying24 hi hz0 hz1 hz2 rfl (by decide) (.slice xa j xc) j (fl5 c j) rfl hown ⟨wi.heap.size + 1, 0, none⟩ 1 1 [.string s, .int .i64 fr, .int .i64 to, .int .i64 ra, .int .i64 kd] rfl rfl (cb_src CR1) (fun u hu => by simp at hu; rcases hu with rfl | rfl | rfl | rfl | rfl <;> rfl) (by unfold maxLen; omega) (by omega) (by have h1 := hgrow.size; (try simp at h1); have := b9.size; (try simp); omega) ?_
              intro v8 w10 hown2 hgrow2 _
              obtain ⟨ya, yc, rfl⟩ := arow_form hown2
              have b10 : Below wi.heap.size wi w10 := bel_grown b9 (Nat.le_refl _) hgrow2 (fun q hq => by have := (hown.lt q hq).1; omega)
              have S10 : Hid (SK w w5 b g j oc c s fr to ra kd w10) := SK0.out.below b10
              have T10 : Hid (TR w10 ya (j + 1) (cAdd c j ⟨s, fr, to, ra, kd⟩)) := hid (row_TR (base := wi.heap.size) (by rw [fl5_add]; exact hown2))
              refine hK.out _ _ (by exact S10.out.cells) (fun hHeld => ?_)
              clear hK K
              try simp only [Act.put, List.setIfInBounds_toArray, List.set_cons_zero, List.set_cons_succ]
              refine wpAnyH_ready (rs := [6]) (by kernel_rfl) (by simp) ?_
              refine AllReadyH.cons (o := { dst := some 66, op := Go.Op.call { callee := Go.Callee.value (Go.Operand.func 17), args := #[Go.Operand.tmp 65], argTypes := #[24] }, type := 4, pos := "l10_tax.go:177", after := #[{ on := 5, ground := Go.Ground.data }, { on := 5, ground := Go.Ground.chain }], guard := none }) rfl (fun K hK => ?_) (AllReadyH.nil)
              go_simp
              refine (specRules_any _ _ _ (cAdd c j ⟨s, fr, to, ra, kd⟩) _ (by omega) (fun i => by have := cAdd_sz (k := j) S10.out.rw.sz (x := ⟨s, fr, to, ra, kd⟩) HS.out i; unfold maxLen; omega) T10.out).mono ?_
              rintro e w11 ⟨rfl, d11⟩
              have S11 : Hid (SK w w5 b g j oc c s fr to ra kd w11) := S10.out.below d11
              clear d11
              first | refine hK.out _ _ (by exact S11.out.cells) (fun hHeld => ?_) | (go_wp2_with fail; refine hK.out _ _ (by exact S11.out.cells) (fun hHeld => ?_))
              clear hK K
              try simp only [Act.put, List.setIfInBounds_toArray, List.set_cons_zero, List.set_cons_succ]
              generalize trB (j + 1) (cAdd c j ⟨s, fr, to, ra, kd⟩) = v at hHeld ⊢
              refine wpAnyH_take (i := 7) (oi := { dst := some 67, op := Go.Op.unOp Go.UnOp.not 4 (Go.Operand.tmp 66), type := 4, pos := "l10_tax.go:177", after := #[{ on := 6, ground := Go.Ground.data }], guard := none }) (v := ?_) rfl (by kernel_rfl) (by kernel_rfl) (by kernel_rfl) (fun _ _ _ h => h) (Or.inl ⟨by rfl, ?_⟩) (by assumption) ?_
              rotate_left
              · (intro w hSw; (try dsimp only at hSw); go_simp <;> try with_reducible rfl)
              try simp only [Act.put, List.setIfInBounds_toArray, List.set_cons_zero, List.set_cons_succ]
              refine wpAnyH_done (by kernel_rfl) ?_ _
              refine NoPanic.normal ?_
              clear hHeld SK0 S10 S9
              have a0 := (S11.out.cr.cell 0).trans rfl
              have a1 := (S11.out.cr.cell 1).trans rfl
              have a2 := (S11.out.cr.cell 2).trans rfl
              have a3 := (S11.out.cr.cell 3).trans rfl
              have a4 := (S11.out.cr.cell 4).trans rfl
              have f0 := S11.out.cr.fr 0
              have hq9 : q < 100 := by omega
              cases v
              · go_wp2_with (first | (go_at_call 76; refine (text_any q _ hq9).mono ?_; rintro e w6 ⟨⟨tx, rfl, htx⟩, qq, rfl⟩; have hcat : ((⟨#[117]⟩ : ByteArray) ++ tx).size ≤ 60 := cat_sz 117 htx; have htx2 : (tx.size : Int) ≤ 4 := (by omega); have RX : Hid (RW b b w w.heap.size g j oc c ((w11.drewN qq).setCell ⟨w5.heap.size, 0, none⟩ (.string ((⟨#[117]⟩ : ByteArray) ++ tx)))) := hid ((S11.out.rw.dN qq).set _ (by have := HG5.out.1; omega) HG5.out.2 S11.out.cr.lt); have k0 : (w11.drewN qq).cell? ⟨w5.heap.size, 0, none⟩ = some (.string s) := a0; have k1 : (w11.drewN qq).cell? ⟨w5.heap.size, 1, none⟩ = some (.int .i64 fr) := a1; have k2 : (w11.drewN qq).cell? ⟨w5.heap.size, 2, none⟩ = some (.int .i64 to) := a2; have k3 : (w11.drewN qq).cell? ⟨w5.heap.size, 3, none⟩ = some (.int .i64 ra) := a3; have k4 : (w11.drewN qq).cell? ⟨w5.heap.size, 4, none⟩ = some (.int .i64 kd) := a4; have kf : (w11.drewN qq).frozen? ⟨w5.heap.size, 0, none⟩ = false := f0; clear htx) | (at_builtin; go_loud (refine wpList_append_own_at _ rfl _ _ 24 rfl w.heap.size 79 i0 (.agg #[.string ByteArray.empty, .int .i64 0, .int .i64 0, .int .i64 0, .int .i64 0]) 5 48 Try.underlying24 hi hz0 hz1 hz2 rfl (by decide) (.slice (some ⟨g, 0, none⟩) j oc) j (fl5 c j) rfl (arow_keep RX.out.own ((Below.refl _ _).alloc (Nat.le_refl _) _)) ⟨w11.heap.size, 0, none⟩ 1 1 [.string ((⟨#[117]⟩ : ByteArray) ++ tx), .int .i64 fr, .int .i64 to, .int .i64 ra, .int .i64 kd] rfl rfl (acells_at (by simp [World.setCell])) (fun u hu => by simp at hu; rcases hu with rfl | rfl | rfl | rfl | rfl <;> rfl) (by unfold maxLen; omega) (by omega) (by have := RX.out.gge; (try simp [World.setCell]); (try simp [World.setCell] at this); omega) ?_); intro v9 w12 hown3 hgrow3 hnil3 hat3; obtain ⟨za, zc, rfl⟩ := arow_form hown3; obtain ⟨g9, rfl⟩ := some_of hown3 (by omega); have RZ : Hid (RW b b w w.heap.size g9 (j + 1) zc (cAdd c j ⟨((⟨#[117]⟩ : ByteArray) ++ tx), fr, to, ra, kd⟩) w12) := hid (RX.out.grow hgrow3 (by rw [fl5_add]; exact hown3) (cAdd_sz RX.out.sz hcat)); clear hown3 hgrow3 hnil3 hat3))
                go_roundw
                case rel => exact ⟨g9, j + 1, zc, q - 1, _, rfl, by go_num, by omega, RZ⟩
                case measure => simp [intOf]; omega
              · have RX : Hid (RW b b w w.heap.size g j oc c w11) := S11.out.rw
                go_wp2_with ((at_builtin; go_loud (refine wpList_append_own_at _ rfl _ _ 24 rfl w.heap.size 79 i0 (.agg #[.string ByteArray.empty, .int .i64 0, .int .i64 0, .int .i64 0, .int .i64 0]) 5 48 Try.underlying24 hi hz0 hz1 hz2 rfl (by decide) (.slice (some ⟨g, 0, none⟩) j oc) j (fl5 c j) rfl (arow_keep RX.out.own ((Below.refl _ _).alloc (Nat.le_refl _) _)) ⟨w11.heap.size, 0, none⟩ 1 1 [.string s, .int .i64 fr, .int .i64 to, .int .i64 ra, .int .i64 kd] rfl rfl (acells_at (by simp [World.setCell])) (fun u hu => by simp at hu; rcases hu with rfl | rfl | rfl | rfl | rfl <;> rfl) (by unfold maxLen; omega) (by omega) (by have := RX.out.gge; (try simp [World.setCell]); (try simp [World.setCell] at this); omega) ?_); intro v9 w12 hown3 hgrow3 hnil3 hat3; obtain ⟨za, zc, rfl⟩ := arow_form hown3; obtain ⟨g9, rfl⟩ := some_of hown3 (by omega); have RZ : Hid (RW b b w w.heap.size g9 (j + 1) zc (cAdd c j ⟨s, fr, to, ra, kd⟩) w12) := hid (RX.out.grow hgrow3 (by rw [fl5_add]; exact hown3) (cAdd_sz RX.out.sz HS.out)); clear hown3 hgrow3 hnil3 hat3))
                go_roundw
                case rel => exact ⟨g9, j + 1, zc, q - 1, _, rfl, by go_num, by omega, RZ⟩
                case measure => simp [intOf]; omega
          · go_simp
            refine hK.out _ _ (by exact (SK0.out.drewS.alloc _).cells) (fun hHeld => ?_)
            clear hK K
            try simp only [Act.put, List.setIfInBounds_toArray, List.set_cons_zero, List.set_cons_succ]
            refine wpAnyH_ready (rs := [0]) (by kernel_rfl) (by simp) ?_
            refine AllReadyH.cons (o := { dst := some 60, op := Go.Op.buildSlice 24 0 #[], type := 24, pos := "l10_tax.go:177", after := #[], guard := none }) rfl (fun K hK => ?_) (AllReadyH.nil)
            go_simp
            refine hK.out _ _ (by exact ((SK0.out.drewS.alloc _).alloc _).cells) (fun hHeld => ?_)
            clear hK K
            try simp only [Act.put, List.setIfInBounds_toArray, List.set_cons_zero, List.set_cons_succ]
            refine wpAnyH_ready (rs := [2]) (by kernel_rfl) (by simp) ?_
            refine AllReadyH.cons (o := { dst := some 62, op := Go.Op.call { callee := Go.Callee.builtin Go.Builtin.append, args := #[Go.Operand.tmp 60, Go.Operand.tmp 61], argTypes := #[24, 24] }, type := 24, pos := "l10_tax.go:177", after := #[{ on := 0, ground := Go.Ground.data }, { on := 1, ground := Go.Ground.data }], guard := none }) rfl (fun K hK => ?_) (AllReadyH.nil)
            have KE1 := (show CB ((wi.alloc (.cells #[.string s, .int .i64 fr, .int .i64 to, .int .i64 ra, .int .i64 kd] 79 (0, 0))).alloc (.cells #[] 79 (0, 0))) (wi.heap.size + 1) #[] 79 from CB.newAt (by simp) _ _); have KE2 := CB.below KE1 (Below.refl _ _).drew KE1.lt; have OW0 : ((wi.alloc (.cells #[.string s, .int .i64 fr, .int .i64 to, .int .i64 ra, .int .i64 kd] 79 (0, 0))).alloc (.cells #[] 79 (0, 0))).drew.ownsRow ((wi.heap.size + 1)) 79 5 (.slice (some ⟨(wi.heap.size + 1), 0, none⟩) 0 0) 0 [] := ⟨rfl, .inr ⟨(wi.heap.size + 1), 0, #[], rfl, Nat.le_refl _, KE2, Nat.le_refl _, Nat.zero_le _, rfl, rfl⟩⟩
            rw [if_pos (by rfl)]
            refine oper_append (Operand.tmp 60) (Operand.tmp 61) 24 rfl (wi.heap.size + 1) 79 i0 (.agg #[.string ByteArray.empty, .int .i64 0, .int .i64 0, .int .i64 0, .int .i64 0]) 5 48 Try.underlying24 hi hz0 hz1 hz2 rfl (by decide) (.slice (some ⟨(wi.heap.size + 1), 0, none⟩) 0 0) 0 [] rfl OW0 ⟨g, 0, none⟩ j oc (fl5 c j) rfl (fl5_len c j) (fl5_src (SK0.out.rw.tr.below (((Below.refl wi.heap.size wi).alloc (Nat.le_refl _) (.cells #[.string s, .int .i64 fr, .int .i64 to, .int .i64 ra, .int .i64 kd] 79 (0, 0))).alloc (by simp) (.cells #[] 79 (0, 0))).drew)) (fl5_one c j) (by unfold maxLen; omega) (by omega) (by first | (simp; done) | (simp; omega)) ?_
            intro v7 w9 hown hgrow _
            simp only [Nat.zero_add, List.nil_append] at hown
            obtain ⟨xa, xc, rfl⟩ := arow_form hown
            have b9 : Below wi.heap.size wi w9 := bel_grown (((Below.refl wi.heap.size wi).alloc (Nat.le_refl _) (.cells #[.string s, .int .i64 fr, .int .i64 to, .int .i64 ra, .int .i64 kd] 79 (0, 0))).alloc (by simp) (.cells #[] 79 (0, 0))).drew (Nat.le_refl _) hgrow (fun q hq => by simp [Value.ownBlock] at hq; omega)
            have S9 : Hid (SK w w5 b g j oc c s fr to ra kd w9) := SK0.out.below b9
            have CQ1 : CB ((wi.alloc (.cells #[.string s, .int .i64 fr, .int .i64 to, .int .i64 ra, .int .i64 kd] 79 (0, 0))).alloc (.cells #[] 79 (0, 0))) wi.heap.size #[.string s, .int .i64 fr, .int .i64 to, .int .i64 ra, .int .i64 kd] 79 := CB.alloc (CB.new _ _) _; have CQ2 := CB.below CQ1 (Below.refl _ _).drew CQ1.lt; have CR1 : CB w9 wi.heap.size #[.string s, .int .i64 fr, .int .i64 to, .int .i64 ra, .int .i64 kd] 79 := CQ2.grB hgrow (by simp [Value.ownBlock])
            refine hK.out _ _ (by exact S9.out.cells) (fun hHeld => ?_)
            clear hK K
            try simp only [Act.put, List.setIfInBounds_toArray, List.set_cons_zero, List.set_cons_succ]
            refine wpAnyH_ready (rs := [5]) (by kernel_rfl) (by simp) ?_
            refine AllReadyH.cons (o := { dst := some 65, op := Go.Op.call { callee := Go.Callee.builtin Go.Builtin.append, args := #[Go.Operand.tmp 62, Go.Operand.tmp 64], argTypes := #[24, 24] }, type := 24, pos := "l10_tax.go:177", after := #[{ on := 2, ground := Go.Ground.data }, { on := 4, ground := Go.Ground.data }, { on := 2, ground := Go.Ground.chain }], guard := none }) rfl (fun K hK => ?_) (AllReadyH.nil)
            rw [if_pos (by rfl)]
            refine oper_append (Operand.tmp 62) (Operand.tmp 64) 24 rfl (wi.heap.size + 1) 79 i0 (.agg #[.string ByteArray.empty, .int .i64 0, .int .i64 0, .int .i64 0, .int .i64 0]) 5 48 Try.underlying24 hi hz0 hz1 hz2 rfl (by decide) (.slice xa j xc) j (fl5 c j) rfl hown ⟨wi.heap.size, 0, none⟩ 1 1 [.string s, .int .i64 fr, .int .i64 to, .int .i64 ra, .int .i64 kd] rfl rfl (cb_src CR1) (fun u hu => by simp at hu; rcases hu with rfl | rfl | rfl | rfl | rfl <;> rfl) (by unfold maxLen; omega) (by omega) (by have h1 := hgrow.size; (try simp at h1); have := b9.size; (try simp); omega) ?_
            intro v8 w10 hown2 hgrow2 _
            obtain ⟨ya, yc, rfl⟩ := arow_form hown2
            have b10 : Below wi.heap.size wi w10 := bel_grown b9 (Nat.le_refl _) hgrow2 (fun q hq => by have := (hown.lt q hq).1; omega)
            have S10 : Hid (SK w w5 b g j oc c s fr to ra kd w10) := SK0.out.below b10
            have T10 : Hid (TR w10 ya (j + 1) (cAdd c j ⟨s, fr, to, ra, kd⟩)) := hid (row_TR (base := (wi.heap.size + 1)) (by rw [fl5_add]; exact hown2))
            refine hK.out _ _ (by exact S10.out.cells) (fun hHeld => ?_)
            clear hK K
            try simp only [Act.put, List.setIfInBounds_toArray, List.set_cons_zero, List.set_cons_succ]
            refine wpAnyH_ready (rs := [6]) (by kernel_rfl) (by simp) ?_
            refine AllReadyH.cons (o := { dst := some 66, op := Go.Op.call { callee := Go.Callee.value (Go.Operand.func 17), args := #[Go.Operand.tmp 65], argTypes := #[24] }, type := 4, pos := "l10_tax.go:177", after := #[{ on := 5, ground := Go.Ground.data }, { on := 5, ground := Go.Ground.chain }], guard := none }) rfl (fun K hK => ?_) (AllReadyH.nil)
            go_simp
            refine (specRules_any _ _ _ (cAdd c j ⟨s, fr, to, ra, kd⟩) _ (by omega) (fun i => by have := cAdd_sz (k := j) S10.out.rw.sz (x := ⟨s, fr, to, ra, kd⟩) HS.out i; unfold maxLen; omega) T10.out).mono ?_
            rintro e w11 ⟨rfl, d11⟩
            have S11 : Hid (SK w w5 b g j oc c s fr to ra kd w11) := S10.out.below d11
            clear d11
            first | refine hK.out _ _ (by exact S11.out.cells) (fun hHeld => ?_) | (go_wp2_with fail; refine hK.out _ _ (by exact S11.out.cells) (fun hHeld => ?_))
            clear hK K
            try simp only [Act.put, List.setIfInBounds_toArray, List.set_cons_zero, List.set_cons_succ]
            generalize trB (j + 1) (cAdd c j ⟨s, fr, to, ra, kd⟩) = v at hHeld ⊢
            refine wpAnyH_take (i := 7) (oi := { dst := some 67, op := Go.Op.unOp Go.UnOp.not 4 (Go.Operand.tmp 66), type := 4, pos := "l10_tax.go:177", after := #[{ on := 6, ground := Go.Ground.data }], guard := none }) (v := ?_) rfl (by kernel_rfl) (by kernel_rfl) (by kernel_rfl) (fun _ _ _ h => h) (Or.inl ⟨by rfl, ?_⟩) (by assumption) ?_
            rotate_left
            · (intro w hSw; (try dsimp only at hSw); go_simp <;> try with_reducible rfl)
            try simp only [Act.put, List.setIfInBounds_toArray, List.set_cons_zero, List.set_cons_succ]
            refine wpAnyH_done (by kernel_rfl) ?_ _
            refine NoPanic.normal ?_
            clear hHeld SK0 S10 S9
            have a0 := (S11.out.cr.cell 0).trans rfl
            have a1 := (S11.out.cr.cell 1).trans rfl
            have a2 := (S11.out.cr.cell 2).trans rfl
            have a3 := (S11.out.cr.cell 3).trans rfl
            have a4 := (S11.out.cr.cell 4).trans rfl
            have f0 := S11.out.cr.fr 0
            have hq9 : q < 100 := by omega
            cases v
            · go_wp2_with (first | (go_at_call 76; refine (text_any q _ hq9).mono ?_; rintro e w6 ⟨⟨tx, rfl, htx⟩, qq, rfl⟩; have hcat : ((⟨#[117]⟩ : ByteArray) ++ tx).size ≤ 60 := cat_sz 117 htx; have htx2 : (tx.size : Int) ≤ 4 := (by omega); have RX : Hid (RW b b w w.heap.size g j oc c ((w11.drewN qq).setCell ⟨w5.heap.size, 0, none⟩ (.string ((⟨#[117]⟩ : ByteArray) ++ tx)))) := hid ((S11.out.rw.dN qq).set _ (by have := HG5.out.1; omega) HG5.out.2 S11.out.cr.lt); have k0 : (w11.drewN qq).cell? ⟨w5.heap.size, 0, none⟩ = some (.string s) := a0; have k1 : (w11.drewN qq).cell? ⟨w5.heap.size, 1, none⟩ = some (.int .i64 fr) := a1; have k2 : (w11.drewN qq).cell? ⟨w5.heap.size, 2, none⟩ = some (.int .i64 to) := a2; have k3 : (w11.drewN qq).cell? ⟨w5.heap.size, 3, none⟩ = some (.int .i64 ra) := a3; have k4 : (w11.drewN qq).cell? ⟨w5.heap.size, 4, none⟩ = some (.int .i64 kd) := a4; have kf : (w11.drewN qq).frozen? ⟨w5.heap.size, 0, none⟩ = false := f0; clear htx) | (at_builtin; go_loud (refine wpList_append_own_at _ rfl _ _ 24 rfl w.heap.size 79 i0 (.agg #[.string ByteArray.empty, .int .i64 0, .int .i64 0, .int .i64 0, .int .i64 0]) 5 48 Try.underlying24 hi hz0 hz1 hz2 rfl (by decide) (.slice (some ⟨g, 0, none⟩) j oc) j (fl5 c j) rfl (arow_keep RX.out.own ((Below.refl _ _).alloc (Nat.le_refl _) _)) ⟨w11.heap.size, 0, none⟩ 1 1 [.string ((⟨#[117]⟩ : ByteArray) ++ tx), .int .i64 fr, .int .i64 to, .int .i64 ra, .int .i64 kd] rfl rfl (acells_at (by simp [World.setCell])) (fun u hu => by simp at hu; rcases hu with rfl | rfl | rfl | rfl | rfl <;> rfl) (by unfold maxLen; omega) (by omega) (by have := RX.out.gge; (try simp [World.setCell]); (try simp [World.setCell] at this); omega) ?_); intro v9 w12 hown3 hgrow3 hnil3 hat3; obtain ⟨za, zc, rfl⟩ := arow_form hown3; obtain ⟨g9, rfl⟩ := some_of hown3 (by omega); have RZ : Hid (RW b b w w.heap.size g9 (j + 1) zc (cAdd c j ⟨((⟨#[117]⟩ : ByteArray) ++ tx), fr, to, ra, kd⟩) w12) := hid (RX.out.grow hgrow3 (by rw [fl5_add]; exact hown3) (cAdd_sz RX.out.sz hcat)); clear hown3 hgrow3 hnil3 hat3))
              go_roundw
              case rel => exact ⟨g9, j + 1, zc, q - 1, _, rfl, by go_num, by omega, RZ⟩
              case measure => simp [intOf]; omega
            · have RX : Hid (RW b b w w.heap.size g j oc c w11) := S11.out.rw
              go_wp2_with ((at_builtin; go_loud (refine wpList_append_own_at _ rfl _ _ 24 rfl w.heap.size 79 i0 (.agg #[.string ByteArray.empty, .int .i64 0, .int .i64 0, .int .i64 0, .int .i64 0]) 5 48 Try.underlying24 hi hz0 hz1 hz2 rfl (by decide) (.slice (some ⟨g, 0, none⟩) j oc) j (fl5 c j) rfl (arow_keep RX.out.own ((Below.refl _ _).alloc (Nat.le_refl _) _)) ⟨w11.heap.size, 0, none⟩ 1 1 [.string s, .int .i64 fr, .int .i64 to, .int .i64 ra, .int .i64 kd] rfl rfl (acells_at (by simp [World.setCell])) (fun u hu => by simp at hu; rcases hu with rfl | rfl | rfl | rfl | rfl <;> rfl) (by unfold maxLen; omega) (by omega) (by have := RX.out.gge; (try simp [World.setCell]); (try simp [World.setCell] at this); omega) ?_); intro v9 w12 hown3 hgrow3 hnil3 hat3; obtain ⟨za, zc, rfl⟩ := arow_form hown3; obtain ⟨g9, rfl⟩ := some_of hown3 (by omega); have RZ : Hid (RW b b w w.heap.size g9 (j + 1) zc (cAdd c j ⟨s, fr, to, ra, kd⟩) w12) := hid (RX.out.grow hgrow3 (by rw [fl5_add]; exact hown3) (cAdd_sz RX.out.sz HS.out)); clear hown3 hgrow3 hnil3 hat3))
              go_roundw
              case rel => exact ⟨g9, j + 1, zc, q - 1, _, rfl, by go_num, by omega, RZ⟩
              case measure => simp [intOf]; omega
    · obtain rfl : q = 0 := by omega
      go_wp2
      go_returns
      exact ⟨g, k, oc, c, rfl, by omega, HW.out⟩
end Go.Proofs.Ytbhghghkgojpgaa
