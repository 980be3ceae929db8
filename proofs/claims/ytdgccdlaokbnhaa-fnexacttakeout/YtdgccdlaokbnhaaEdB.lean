/- What goes out: TakeOut of the model. -/
import Derived.Test.YtdgccdlaokbnhaaEd
namespace Go.Proofs.Ytdgccdlaokbnhaa
open Go Go.ChangeShapes Go.WideShapes Go.ChangeAt Go.RowKit
set_option linter.unusedVariables false
set_option linter.unusedSimpArgs false

set_option maxRecDepth 20000 in
set_option maxHeartbeats 16000000 in
theorem specTakeOut_B (m p : Int) (a : Addr) (n cap : Nat) (off q : Int) (c : Nat → LA2) (R : TS) (w : World) (hw0 : woB m p n c off = true) (hq0 : inB q 1 1000000 = true) (hle : q ≤ qS c n) (hr : LAr w (some a) n c) (hR : toS m n c q = R) (hm : ¬ m = 2) :
    Calls Try.prog 34 #[.agg #[.int .i64 m, .int .i64 p, .slice (some a) n cap, .int .i64 off], .int .i64 q] w fun e w' => ∃ ad cap, e = .returned (.tuple #[.agg #[.int .i64 m, .int .i64 p, .slice ad R.n cap, .int .i64 off], .int .i64 R.cost, .bool true]) ∧ OwnLA2 w' w.heap.size ad R.n R.c ∧ Below w.heap.size w w' := by
  have HR := hid hr
  have HW0 := hid hw0
  have HQ0 := hid hq0
  have hwp := woB_p hw0
  have hn := hwp.len300
  have hnI : (n : Int) ≤ 1048576 := by omega
  have HLA := hid hwp.lay
  obtain ⟨q1, q2⟩ := inB_t hq0
  have HTI : Hid (TsI m p (kS c n) (qS c n - q) (mlN m) ⟨n, c, q, 0⟩) := hid (to_start hwp q1 hle)
  have hbd := hwp.bd
  obtain ⟨i4, hi4, hz40, hz41, hz42⟩ := infoLA2
  obtain ⟨Q, hQ⟩ : ∃ Q, qS c n = Q := ⟨_, rfl⟩
  obtain ⟨K, hK⟩ : ∃ K, kS c n = K := ⟨_, rfl⟩
  rw [hQ] at hle hbd
  rw [hK] at hbd
  rw [hQ, hK] at HTI
  obtain ⟨U, hU⟩ : ∃ U, Q - q = U := ⟨_, rfl⟩
  rw [hU] at HTI
  have HU : Hid (0 ≤ U ∧ K ≤ 100000000000 ∧ Q ≤ 1000000) := hid (by omega)
  have HSQ := hid hQ
  have HSK := hid hK
  have HM4 : Hid (m = 4 → mlN m ≤ 1) := hid (fun e => by subst e; decide)
  have HR0 : Hid (tsR m n ⟨n, c, q, 0⟩ = R) := hid hR
  have hlt : ¬ Q < q := by omega
  clear hr hw0 hq0 hQ hK hR hwp hU hle hbd
  have HM2 := hid hm
  clear hm
  go_enter Try.func34, Try.ntmps34
  go_wp2_with (first
    | (go_at_call 20; refine (specWorth_eq _ _ _ _ _ _ c _ _ hnI ((HR.out.alloc _).alloc _) HW0.out).mono ?_; rintro e w3 ⟨rfl, b3⟩; have U3 : Hid (VB w m p (.slice (some a) n cap) off w3) := hid ((VB.start w m p (.slice (some a) n cap) off).below b3); have R3 : Hid (LAr w3 (some a) n c) := hid (((HR.out.alloc _).alloc _).below b3); have t0 : w3.cell? ⟨w.heap.size, 0, none⟩ = some (.int .i64 m) := U3.out.bx.cell 0; have t1 : w3.cell? ⟨w.heap.size, 1, none⟩ = some (.int .i64 p) := U3.out.bx.cell 1; have t2 : w3.cell? ⟨w.heap.size, 2, none⟩ = some (.slice (some a) n cap) := U3.out.bx.cell 2; have t3 : w3.cell? ⟨w.heap.size, 3, none⟩ = some (.int .i64 off) := U3.out.bx.cell 3; clear b3)
    | (go_at_call 60; refine (l1In_eq _ _ _ _ _ HQ0.out).mono ?_; rintro e w1 ⟨rfl, ew⟩; replace ew := ew.symm; subst ew)
    | (go_at_call 70; refine (specSums_eq (some a) n cap c Q K _ (by omega) HLA.out R3.out HSQ.out HSK.out).mono ?_; rintro e w4 ⟨rfl, ew⟩; replace ew := ew.symm; subst ew)
    | (go_at_call 59; clear t0 t1 t2 t3; refine (l16Copy_any _ _ a n _ _ c _ hnI R3.out).mono ?_; rintro e w5 ⟨ad5, cp5, rfl, o5, b5⟩; have U5 := hid (U3.out.below b5); obtain ⟨adx, cpx, hvx, hcp5, ho5⟩ := ownLA2_of o5; cases hvx; have O5 := hid (ho5.mono U3.out.size); clear o5 ho5 b5))
  have HST : Hid (SB w m p off (.slice (some a) n cap) w5.heap.size cp5 n ad5 c (w5.alloc (.cells #[.int .i64 m, .int .i64 p, .slice ad5 n cp5, .int .i64 off] 26 (0, 0)))) := hid (SB.start U5.out O5.out)
  generalize w5.alloc (.cells #[.int .i64 m, .int .i64 p, .slice ad5 n cp5, .int .i64 off] 26 (0, 0)) = WS at HST ⊢
  generalize w5.heap.size = nb at HST ⊢
  clear U3 U5 R3 O5
  go_loopw [1, 10, 11, 12, 13, 14] (fun s1 s10 s11 s12 s13 s14 wr => ∃ (f n1 cp : Nat) (ad : Option Addr) (c1 : Nat → LA2) (l1 k1 : Int), s1 = .int .i64 l1 ∧ s10 = .int .i64 k1 ∧ n1 ≤ cp ∧ Hid (SB w m p off (.slice (some a) n cap) nb cp n1 ad c1 wr) ∧ Hid (TsI m p K U (mlN m) ⟨n1, c1, l1, k1⟩) ∧ Hid (tsR m f ⟨n1, c1, l1, k1⟩ = R ∧ (0 < l1 → n1 ≤ f)) ∧ Hid (l1 ≤ 1000000)) (fun s1 _ _ _ _ _ _ => (intOf s1).toNat)
  case atStart => exact ⟨n, n, cp5, ad5, c, q, 0, rfl, rfl, hcp5, HST.out, HTI.out, ⟨HR0.out, fun _ => Nat.le_refl _⟩, q2⟩
  case round =>
    obtain ⟨f, n1, cp, ad, c1, l1, k1, rfl, rfl, hcp, HO, HI, HF, HL⟩ := hrel
    have h300 : n1 ≤ 300 := Nat.le_trans HI.out.len mlN_le
    by_cases hl : 0 < l1
    · have hpos : 1 ≤ n1 := HI.out.pos HU.out.1 hl
      have hat := HI.out.at_ HU.out.1 hl
      simp only at hat
      have HSS := hid (HI.out.step HU.out.1 HM4.out)
      obtain ⟨g, _, rfl, hg1, hg2, _⟩ := HO.out.rowA (by omega)
      have HG : Hid (w.heap.size + 2 ≤ g ∧ g ≠ nb) := hid ⟨hg1, hg2⟩
      have hio : atO m n1 = 0 := by unfold atO; rw [if_neg HM2.out]
      have hm2 : (m == 2) = false := by simpa using HM2.out
      have hin : 0 < n1 := hpos
      have hin2 : (0 : Int) < (n1 : Int) := by omega
      have hjc : 1 ≤ cp := by omega
      have hjlit : (1 : Int) ≤ (n1 : Int) := by omega
      have hw1 : IntKind.i64.wrap 1 = 1 := by decide
      have HIJ : Hid (True) := trivial
      rw [hio] at hat
      obtain ⟨xq, hxq⟩ : ∃ x, (c1 0).qty = x := ⟨_, rfl⟩
      obtain ⟨xk, hxk⟩ : ∃ x, (c1 0).cost = x := ⟨_, rfl⟩
      rw [hxq, hxk] at hat
      have hco := HI.out.cost
      have hgo := HI.out.got
      obtain ⟨_, _, hs3, _⟩ := sums_bd n1 HI.out.lay
      simp only at hs3 hco hgo
      have HBD : Hid ((0 ≤ k1 ∧ k1 ≤ 100000000000) ∧ ((1 ≤ xq ∧ xq ≤ 1000000) ∧ 0 ≤ xk ∧ xk ≤ 100000000000) ∧ 0 < l1 ∧ l1 ≤ 1000000) := hid ⟨⟨hgo, by have := HU.out; omega⟩, hat, hl, HL.out⟩
      have HXX : Hid ((c1 0).qty = xq ∧ (c1 0).cost = xk ∧ atO m n1 = 0) := hid ⟨hxq, hxk, hio⟩
      obtain ⟨f9, rfl⟩ : ∃ f9, f = f9 + 1 := ⟨f - 1, by have := HF.out.2 hl; omega⟩
      have b0 : wr.cell? ⟨w.heap.size, 0, none⟩ = some (.int .i64 m) := HO.out.bx.cell 0
      have n2 : wr.cell? ⟨nb, 2, none⟩ = some (.slice (some ⟨g, 0, none⟩) n1 cp) := HO.out.nx.cell 2
      have HE0 : Hid (wr.cell? ⟨g, 0, none⟩ = some (.int .i64 xq) ∧ wr.cell? ⟨g, 1, none⟩ = some (.int .i64 xk)) := hid (by have := HO.out.el hin; rw [hxq, hxk] at this; exact this)
      obtain ⟨g0, g1⟩ := HE0.out
      have HSA0 := hid (HO.out.alloc (.cells #[.int .i64 xq, .int .i64 xk] 40 (0, 0)))
      clear hco hgo hs3 hat hio hxq hxk
      by_cases hge : xq ≤ l1
      · have hts : tsS m ⟨n1, c1, l1, k1⟩ = ⟨n1 - 1, delL c1 0, l1 - xq, k1 + xk⟩ := by
          obtain ⟨x1, x2, x3⟩ := HXX.out
          unfold tsS
          simp only [x3]
          rw [if_neg (by omega), if_pos (by omega), x1, x2]
        obtain ⟨k2, hk2⟩ : ∃ k2, k1 + xk = k2 := ⟨_, rfl⟩
        rw [hk2] at hts
        have HI2 : Hid (TsI m p K U (mlN m) ⟨n1 - 1, delL c1 0, l1 - xq, k2⟩) := hid (by have := HSS.out.1; rw [hts] at this; exact this)
        have HF2 : Hid (tsR m (f9 + 1 - 1) ⟨n1 - 1, delL c1 0, l1 - xq, k2⟩ = R ∧ (0 < l1 - xq → n1 - 1 ≤ f9 + 1 - 1)) := hid ⟨by rw [← hts]; exact HF.out.1, fun _ => by have := HF.out.2 hl; omega⟩
        have hwk : IntKind.i64.wrap (k1 + xk) = k2 := by rw [hk2]; exact IntWalk.i64_in _ ⟨by have := HBD.out; omega, by have := HBD.out; omega⟩
        have hwl : IntKind.i64.wrap (l1 - xq) = l1 - xq := IntWalk.i64_in _ ⟨by have := HBD.out; omega, by have := HBD.out; omega⟩
        obtain ⟨A, hA⟩ : ∃ A : Addr, (if cp = 1 then some (⟨g, 0, none⟩ : Addr) else some ⟨g, 2, none⟩) = some A := by by_cases h : cp = 1; (exact ⟨⟨g, 0, none⟩, by simp [h]⟩); (exact ⟨⟨g, 2, none⟩, by simp [h]⟩)
        have HSRC : Hid (∀ V, SB w m p off (.slice (some a) n cap) nb cp n1 (some ⟨g, 0, none⟩) c1 V → ∀ k u, (rowLA2 (fun k => c1 (0 + 1 + k)) (n1 - 1))[k]? = some u → V.cell? (A.add k) = some u) := hid (src_tail hcp hA)
        have HEQ : Hid ((0 + (n1 - 1) = n1 - 1) ∧ rowLA2 c1 0 ++ rowLA2 (fun k => c1 (0 + 1 + k)) (n1 - 1) = rowLA2 (delL c1 0) (n1 - 1)) := hid ⟨by omega, by simp only [rowLA2, List.nil_append]; exact rowL_congr (fun k hk => by unfold delL; rw [if_neg (by omega), show 0 + 1 + k = k + 1 by omega])⟩
        clear hts hk2
        go_wp2
        have HSA := hid HSA0.out
        generalize wr.alloc (.cells #[.int .i64 xq, .int .i64 xk] 40 (0, 0)) = WA at HSA ⊢
        clear g0 g1 b0 n2
        have HVD := hid (HSA.out.drew)
        refine wp_region_noPanic ?_
        refine wp_region_held_drew (S := fun _ => True) (by kernel_rfl) (by exact trivial) (fun hHeld => ?_)
        generalize hVD : WA.drew = VD at HVD hHeld ⊢
        clear hVD
        refine wpAnyH_take (i := 1) (oi := { dst := some 63, op := Go.Op.fieldAddr 26 (Go.Operand.tmp 9) 2, type := 0, pos := "l16_cost.go:81", after := #[], guard := none }) (v := ?_) rfl (by kernel_rfl) (by kernel_rfl) (by kernel_rfl) (fun _ _ _ h => h) (Or.inl ⟨by rfl, ?_⟩) (by assumption) ?_
        rotate_left
        · (intro w hSw; (try dsimp only at hSw); go_simp <;> try with_reducible rfl)
        try simp only [Act.put, List.setIfInBounds_toArray, List.set_cons_zero, List.set_cons_succ]
        refine wpAnyH_take (i := 3) (oi := { dst := some 65, op := Go.Op.move (Go.Operand.tmp 11), type := 3, pos := "l16_cost.go:81", after := #[], guard := none }) (v := ?_) rfl (by kernel_rfl) (by kernel_rfl) (by kernel_rfl) (fun _ _ _ h => h) (Or.inl ⟨by rfl, ?_⟩) (by assumption) ?_
        rotate_left
        · (intro w hSw; (try dsimp only at hSw); go_simp <;> try with_reducible rfl)
        try simp only [Act.put, List.setIfInBounds_toArray, List.set_cons_zero, List.set_cons_succ]
        refine wpAnyH_take (i := 6) (oi := { dst := some 68, op := Go.Op.fieldAddr 26 (Go.Operand.tmp 9) 2, type := 0, pos := "l16_cost.go:81", after := #[], guard := none }) (v := ?_) rfl (by kernel_rfl) (by kernel_rfl) (by kernel_rfl) (fun _ _ _ h => h) (Or.inl ⟨by rfl, ?_⟩) (by assumption) ?_
        rotate_left
        · (intro w hSw; (try dsimp only at hSw); go_simp <;> try with_reducible rfl)
        try simp only [Act.put, List.setIfInBounds_toArray, List.set_cons_zero, List.set_cons_succ]
        refine wpAnyH_take (i := 8) (oi := { dst := some 70, op := Go.Op.move (Go.Operand.tmp 11), type := 3, pos := "l16_cost.go:81", after := #[], guard := none }) (v := ?_) rfl (by kernel_rfl) (by kernel_rfl) (by kernel_rfl) (fun _ _ _ h => h) (Or.inl ⟨by rfl, ?_⟩) (by assumption) ?_
        rotate_left
        · (intro w hSw; (try dsimp only at hSw); go_simp <;> try with_reducible rfl)
        try simp only [Act.put, List.setIfInBounds_toArray, List.set_cons_zero, List.set_cons_succ]
        refine wpAnyH_take (i := 9) (oi := { dst := some 71, op := Go.Op.binOp Go.BinOp.add 3 (Go.Operand.tmp 70) (Go.Operand.const (Go.Value.int Go.IntKind.i64 1)) 3, type := 3, pos := "l16_cost.go:81", after := #[{ on := 8, ground := Go.Ground.data }], guard := none }) (v := ?_) rfl (by kernel_rfl) (by kernel_rfl) (by kernel_rfl) (fun _ _ _ h => h) (Or.inl ⟨by rfl, ?_⟩) (by assumption) ?_
        rotate_left
        · (intro w hSw; (try dsimp only at hSw); go_simp <;> try with_reducible rfl)
        try simp only [Act.put, List.setIfInBounds_toArray, List.set_cons_zero, List.set_cons_succ]
        refine wpAnyH_ready (rs := [0, 2, 7]) (by kernel_rfl) (by simp) ?_
        refine AllReadyH.cons (o := { dst := some 62, op := Go.Op.buildSlice 24 0 #[], type := 24, pos := "l16_cost.go:81", after := #[], guard := none }) rfl (fun K hK => ?_) (AllReadyH.cons (o := { dst := some 64, op := Go.Op.load 24 (Go.Operand.tmp 63), type := 24, pos := "l16_cost.go:81", after := #[{ on := 1, ground := Go.Ground.data }], guard := none }) rfl (fun K hK => ?_) (AllReadyH.cons (o := { dst := some 69, op := Go.Op.load 24 (Go.Operand.tmp 68), type := 24, pos := "l16_cost.go:81", after := #[{ on := 6, ground := Go.Ground.data }], guard := none }) rfl (fun K hK => ?_) (AllReadyH.nil)))
        · go_simp
          have T2 := hid (HVD.out.alloc (.cells #[] 40 (0, 0)))
          have E : Hid (CB (VD.alloc (.cells #[] 40 (0, 0))) VD.heap.size #[] 40) := hid (CB.new _ _)
          have HEB : Hid (w.heap.size + 2 ≤ VD.heap.size ∧ VD.heap.size ≠ nb ∧ VD.heap.size ≠ g) := hid ⟨by have := HVD.out.lt; have := HVD.out.nx.lt; omega, by have := HVD.out.nx.lt; omega, by obtain ⟨g0, c0, e0, _, _, h0, _⟩ := HVD.out.rowA hpos; cases e0; have := h0.lt; omega⟩
          refine hK.out _ _ trivial (fun hHeld => ?_)
          clear hK K
          try simp only [Act.put, List.setIfInBounds_toArray, List.set_cons_zero, List.set_cons_succ]
          generalize (VD.alloc (.cells #[] 40 (0, 0))) = V1 at T2 E ⊢
          generalize VD.heap.size = eb at E HEB ⊢
          refine wpAnyH_ready (rs := [2, 7]) (by kernel_rfl) (by simp) ?_
          refine AllReadyH.cons (o := { dst := some 64, op := Go.Op.load 24 (Go.Operand.tmp 63), type := 24, pos := "l16_cost.go:81", after := #[{ on := 1, ground := Go.Ground.data }], guard := none }) rfl (fun K hK => ?_) (AllReadyH.cons (o := { dst := some 69, op := Go.Op.load 24 (Go.Operand.tmp 68), type := 24, pos := "l16_cost.go:81", after := #[{ on := 6, ground := Go.Ground.data }], guard := none }) rfl (fun K hK => ?_) (AllReadyH.nil))
          · have y2 : V1.cell? ⟨nb, 2, none⟩ = some (.slice (some ⟨g, 0, none⟩) n1 cp) := T2.out.nx.cell 2
            go_simp
            refine hK.out _ _ trivial (fun hHeld => ?_)
            clear hK K y2
            try simp only [Act.put, List.setIfInBounds_toArray, List.set_cons_zero, List.set_cons_succ]
            refine wpAnyH_take (i := 4) (oi := { dst := some 66, op := Go.Op.slice 24 (Go.Operand.tmp 64) none (some (Go.Operand.tmp 65)) none, type := 24, pos := "l16_cost.go:81", after := #[{ on := 2, ground := Go.Ground.data }, { on := 3, ground := Go.Ground.data }], guard := none }) (v := ?_) rfl (by kernel_rfl) (by kernel_rfl) (by kernel_rfl) (fun _ _ _ h => h) (Or.inl ⟨by rfl, ?_⟩) (by assumption) ?_
            rotate_left
            · (intro w hSw; (try dsimp only at hSw); go_simp <;> try with_reducible rfl)
            try simp only [Act.put, List.setIfInBounds_toArray, List.set_cons_zero, List.set_cons_succ]
            refine wpAnyH_ready (rs := [5, 7]) (by kernel_rfl) (by simp) ?_
            refine AllReadyH.cons (o := { dst := some 67, op := Go.Op.call { callee := Go.Callee.builtin Go.Builtin.append, args := #[Go.Operand.tmp 62, Go.Operand.tmp 66], argTypes := #[24, 24] }, type := 24, pos := "l16_cost.go:81", after := #[{ on := 0, ground := Go.Ground.data }, { on := 4, ground := Go.Ground.data }], guard := none }) rfl (fun K hK => ?_) (AllReadyH.cons (o := { dst := some 69, op := Go.Op.load 24 (Go.Operand.tmp 68), type := 24, pos := "l16_cost.go:81", after := #[{ on := 6, ground := Go.Ground.data }], guard := none }) rfl (fun K hK => ?_) (AllReadyH.nil))
            · rw [if_pos (by rfl)]
              refine oper_append (Operand.tmp 62) (Operand.tmp 66) 24 rfl (w.heap.size + 2) 40 i4 (.agg #[.int .i64 0, .int .i64 0]) 2 16 Try.underlying24 hi4 hz40 hz41 hz42 rfl (by decide) (.slice (some ⟨eb, 0, none⟩) 0 0) 0 [] rfl (madeLA2 E.out HEB.out.1) ⟨g, 0, none⟩ 0 cp (rowLA2 c1 0) rfl (rowLA2_len _ _) (rowLA2_src (T2.out.ro.row.mono (Nat.le_of_lt hin))) (rowLA2_one _ _) (by unfold maxLen; omega) (by omega) (by have := T2.out.rs.lt; omega) ?_
              intro v5 V3 hown hgr hat5
              rw [Nat.zero_add, List.nil_append] at hown
              have HVB : Hid (∀ r, v5.ownBlock = some r → w.heap.size + 2 ≤ r ∧ r ≠ nb ∧ r ≠ g) := hid (fun r hr => by
          rcases hat5 with e | e
          · rw [e] at hr; simp [Value.ownBlock] at hr; subst hr; exact HEB.out
          · rw [e] at hr; simp at hr; subst hr; exact ⟨by have := T2.out.lt; have := T2.out.nx.lt; omega, by have := T2.out.nx.lt; omega, by obtain ⟨g0, c0, e0, _, _, h0, _⟩ := T2.out.rowA hpos; cases e0; have := h0.lt; omega⟩)
              have T4 := hid (T2.out.grown hgr (fun r hr => by simp [Value.ownBlock] at hr; subst hr; exact ⟨HEB.out.1, HEB.out.2.1, fun x hx => by cases hx; exact HEB.out.2.2⟩))
              have O5 := hid hown
              clear hown hgr hat5
              refine hK.out _ _ trivial (fun hHeld => ?_)
              clear hK K
              try simp only [Act.put, List.setIfInBounds_toArray, List.set_cons_zero, List.set_cons_succ]
              refine wpAnyH_ready (rs := [7]) (by kernel_rfl) (by simp) ?_
              refine AllReadyH.cons (o := { dst := some 69, op := Go.Op.load 24 (Go.Operand.tmp 68), type := 24, pos := "l16_cost.go:81", after := #[{ on := 6, ground := Go.Ground.data }], guard := none }) rfl (fun K hK => ?_) (AllReadyH.nil)
              · have y2 : V3.cell? ⟨nb, 2, none⟩ = some (.slice (some ⟨g, 0, none⟩) n1 cp) := T4.out.nx.cell 2
                go_simp
                refine hK.out _ _ trivial (fun hHeld => ?_)
                clear hK K y2
                try simp only [Act.put, List.setIfInBounds_toArray, List.set_cons_zero, List.set_cons_succ]
                refine wpAnyH_take (i := 10) (oi := { dst := some 72, op := Go.Op.slice 24 (Go.Operand.tmp 69) (some (Go.Operand.tmp 71)) none none, type := 24, pos := "l16_cost.go:81", after := #[{ on := 7, ground := Go.Ground.data }, { on := 9, ground := Go.Ground.data }], guard := none }) (v := ?_) rfl (by kernel_rfl) (by kernel_rfl) (by kernel_rfl) (fun _ _ _ h => h) (Or.inl ⟨by rfl, ?_⟩) (by assumption) ?_
                rotate_left
                · (intro w hSw; (try dsimp only at hSw); go_simp <;> try with_reducible rfl)
                try simp only [Act.put, List.setIfInBounds_toArray, List.set_cons_zero, List.set_cons_succ]
                refine wpAnyH_ready (rs := [11]) (by kernel_rfl) (by simp) ?_
                refine AllReadyH.cons (o := { dst := some 73, op := Go.Op.call { callee := Go.Callee.builtin Go.Builtin.append, args := #[Go.Operand.tmp 67, Go.Operand.tmp 72], argTypes := #[24, 24] }, type := 24, pos := "l16_cost.go:81", after := #[{ on := 5, ground := Go.Ground.data }, { on := 10, ground := Go.Ground.data }, { on := 5, ground := Go.Ground.chain }], guard := none }) rfl (fun K hK => ?_) (AllReadyH.nil)
                · rw [if_pos (by rfl)]
                  refine oper_append (Operand.tmp 67) (Operand.tmp 72) 24 rfl (w.heap.size + 2) 40 i4 (.agg #[.int .i64 0, .int .i64 0]) 2 16 Try.underlying24 hi4 hz40 hz41 hz42 rfl (by decide) v5 0 (rowLA2 c1 0) rfl O5.out A (n1 - 1) (cp - 1) (rowLA2 (fun k => c1 (0 + 1 + k)) (n1 - 1)) rfl (rowLA2_len _ _) (HSRC.out _ T4.out) (rowLA2_one _ _) (by unfold maxLen; omega) (by omega) (by have := T4.out.rs.lt; omega) ?_
                  intro v9 V5 hown hgr hat9
                  rw [HEQ.out.1, HEQ.out.2] at hown
                  obtain ⟨aq, cq, rfl, hcq, ho9⟩ := ownLA2_of hown
                  have OWN := hid ho9
                  have T6 := hid (T4.out.grown hgr (fun r hr => ⟨(HVB.out r hr).1, (HVB.out r hr).2.1, fun x hx => by cases hx; exact (HVB.out r hr).2.2⟩))
                  clear hown hgr hat9 ho9
                  refine hK.out _ _ trivial (fun hHeld => ?_)
                  clear hK K
                  try simp only [Act.put, List.setIfInBounds_toArray, List.set_cons_zero, List.set_cons_succ]
                  refine wpAnyH_take (i := 12) (oi := { dst := some 74, op := Go.Op.fieldAddr 26 (Go.Operand.tmp 9) 2, type := 0, pos := "l16_cost.go:81", after := #[{ on := 0, ground := Go.Ground.phase }, { on := 1, ground := Go.Ground.phase }, { on := 2, ground := Go.Ground.phase }, { on := 3, ground := Go.Ground.phase }, { on := 4, ground := Go.Ground.phase }, { on := 5, ground := Go.Ground.phase }, { on := 6, ground := Go.Ground.phase }, { on := 7, ground := Go.Ground.phase }, { on := 8, ground := Go.Ground.phase }, { on := 9, ground := Go.Ground.phase }, { on := 10, ground := Go.Ground.phase }, { on := 11, ground := Go.Ground.phase }], guard := none }) (v := ?_) rfl (by kernel_rfl) (by kernel_rfl) (by kernel_rfl) (fun _ _ _ h => h) (Or.inl ⟨by rfl, ?_⟩) (by assumption) ?_
                  rotate_left
                  · (intro w hSw; (try dsimp only at hSw); go_simp <;> try with_reducible rfl)
                  try simp only [Act.put, List.setIfInBounds_toArray, List.set_cons_zero, List.set_cons_succ]
                  have y2 : V5.cell? ⟨nb, 2, none⟩ = some (.slice (some ⟨g, 0, none⟩) n1 cp) := T6.out.nx.cell 2
                  have f2 := T6.out.nx.fr 2
                  refine wpAnyH_ready (rs := [13]) (by kernel_rfl) (by simp) ?_
                  refine AllReadyH.cons (o := { dst := none, op := Go.Op.store 24 (Go.Operand.tmp 74) (Go.Operand.tmp 73), type := 0, pos := "l16_cost.go:81", after := #[{ on := 12, ground := Go.Ground.data }, { on := 11, ground := Go.Ground.data }, { on := 11, ground := Go.Ground.chain }, { on := 0, ground := Go.Ground.phase }, { on := 1, ground := Go.Ground.phase }, { on := 2, ground := Go.Ground.phase }, { on := 3, ground := Go.Ground.phase }, { on := 4, ground := Go.Ground.phase }, { on := 5, ground := Go.Ground.phase }, { on := 6, ground := Go.Ground.phase }, { on := 7, ground := Go.Ground.phase }, { on := 8, ground := Go.Ground.phase }, { on := 9, ground := Go.Ground.phase }, { on := 10, ground := Go.Ground.phase }, { on := 11, ground := Go.Ground.phase }], guard := none }) rfl (fun K hK => ?_) (AllReadyH.nil)
                  go_simp
                  have TF := hid (T6.out.lays (cp2 := cq) OWN.out)
                  refine hK.out _ _ trivial (fun hHeld => ?_)
                  clear hK K y2 f2
                  try simp only [Act.put, List.setIfInBounds_toArray, List.set_cons_zero, List.set_cons_succ]
                  refine wpAnyH_done (by kernel_rfl) ?_ _
                  refine NoPanic.normal ?_
                  clear hHeld
                  generalize V5.setCell ⟨nb, 2, none⟩ (.slice aq (n1 - 1) cq) = VF at TF ⊢
                  go_wp2
                  go_roundw
                  case rel => exact ⟨f9 + 1 - 1, n1 - 1, cq, aq, delL c1 0, l1 - xq, k2, rfl, rfl, hcq, TF.out, HI2.out, HF2.out, hid (by have := HL.out; have := HBD.out; omega)⟩
                  case measure => have := HBD.out; simp [intOf]; omega
            · have y2 : V1.cell? ⟨nb, 2, none⟩ = some (.slice (some ⟨g, 0, none⟩) n1 cp) := T2.out.nx.cell 2
              go_simp
              refine hK.out _ _ trivial (fun hHeld => ?_)
              clear hK K y2
              try simp only [Act.put, List.setIfInBounds_toArray, List.set_cons_zero, List.set_cons_succ]
              refine wpAnyH_take (i := 10) (oi := { dst := some 72, op := Go.Op.slice 24 (Go.Operand.tmp 69) (some (Go.Operand.tmp 71)) none none, type := 24, pos := "l16_cost.go:81", after := #[{ on := 7, ground := Go.Ground.data }, { on := 9, ground := Go.Ground.data }], guard := none }) (v := ?_) rfl (by kernel_rfl) (by kernel_rfl) (by kernel_rfl) (fun _ _ _ h => h) (Or.inl ⟨by rfl, ?_⟩) (by assumption) ?_
              rotate_left
              · (intro w hSw; (try dsimp only at hSw); go_simp <;> try with_reducible rfl)
              try simp only [Act.put, List.setIfInBounds_toArray, List.set_cons_zero, List.set_cons_succ]
              refine wpAnyH_ready (rs := [5]) (by kernel_rfl) (by simp) ?_
              refine AllReadyH.cons (o := { dst := some 67, op := Go.Op.call { callee := Go.Callee.builtin Go.Builtin.append, args := #[Go.Operand.tmp 62, Go.Operand.tmp 66], argTypes := #[24, 24] }, type := 24, pos := "l16_cost.go:81", after := #[{ on := 0, ground := Go.Ground.data }, { on := 4, ground := Go.Ground.data }], guard := none }) rfl (fun K hK => ?_) (AllReadyH.nil)
              · rw [if_pos (by rfl)]
                refine oper_append (Operand.tmp 62) (Operand.tmp 66) 24 rfl (w.heap.size + 2) 40 i4 (.agg #[.int .i64 0, .int .i64 0]) 2 16 Try.underlying24 hi4 hz40 hz41 hz42 rfl (by decide) (.slice (some ⟨eb, 0, none⟩) 0 0) 0 [] rfl (madeLA2 E.out HEB.out.1) ⟨g, 0, none⟩ 0 cp (rowLA2 c1 0) rfl (rowLA2_len _ _) (rowLA2_src (T2.out.ro.row.mono (Nat.le_of_lt hin))) (rowLA2_one _ _) (by unfold maxLen; omega) (by omega) (by have := T2.out.rs.lt; omega) ?_
                intro v5 V7 hown hgr hat5
                rw [Nat.zero_add, List.nil_append] at hown
                have HVB : Hid (∀ r, v5.ownBlock = some r → w.heap.size + 2 ≤ r ∧ r ≠ nb ∧ r ≠ g) := hid (fun r hr => by
          rcases hat5 with e | e
          · rw [e] at hr; simp [Value.ownBlock] at hr; subst hr; exact HEB.out
          · rw [e] at hr; simp at hr; subst hr; exact ⟨by have := T2.out.lt; have := T2.out.nx.lt; omega, by have := T2.out.nx.lt; omega, by obtain ⟨g0, c0, e0, _, _, h0, _⟩ := T2.out.rowA hpos; cases e0; have := h0.lt; omega⟩)
                have T8 := hid (T2.out.grown hgr (fun r hr => by simp [Value.ownBlock] at hr; subst hr; exact ⟨HEB.out.1, HEB.out.2.1, fun x hx => by cases hx; exact HEB.out.2.2⟩))
                have O5 := hid hown
                clear hown hgr hat5
                refine hK.out _ _ trivial (fun hHeld => ?_)
                clear hK K
                try simp only [Act.put, List.setIfInBounds_toArray, List.set_cons_zero, List.set_cons_succ]
                refine wpAnyH_ready (rs := [11]) (by kernel_rfl) (by simp) ?_
                refine AllReadyH.cons (o := { dst := some 73, op := Go.Op.call { callee := Go.Callee.builtin Go.Builtin.append, args := #[Go.Operand.tmp 67, Go.Operand.tmp 72], argTypes := #[24, 24] }, type := 24, pos := "l16_cost.go:81", after := #[{ on := 5, ground := Go.Ground.data }, { on := 10, ground := Go.Ground.data }, { on := 5, ground := Go.Ground.chain }], guard := none }) rfl (fun K hK => ?_) (AllReadyH.nil)
                · rw [if_pos (by rfl)]
                  refine oper_append (Operand.tmp 67) (Operand.tmp 72) 24 rfl (w.heap.size + 2) 40 i4 (.agg #[.int .i64 0, .int .i64 0]) 2 16 Try.underlying24 hi4 hz40 hz41 hz42 rfl (by decide) v5 0 (rowLA2 c1 0) rfl O5.out A (n1 - 1) (cp - 1) (rowLA2 (fun k => c1 (0 + 1 + k)) (n1 - 1)) rfl (rowLA2_len _ _) (HSRC.out _ T8.out) (rowLA2_one _ _) (by unfold maxLen; omega) (by omega) (by have := T8.out.rs.lt; omega) ?_
                  intro v9 V9 hown hgr hat9
                  rw [HEQ.out.1, HEQ.out.2] at hown
                  obtain ⟨aq, cq, rfl, hcq, ho9⟩ := ownLA2_of hown
                  have OWN := hid ho9
                  have T10 := hid (T8.out.grown hgr (fun r hr => ⟨(HVB.out r hr).1, (HVB.out r hr).2.1, fun x hx => by cases hx; exact (HVB.out r hr).2.2⟩))
                  clear hown hgr hat9 ho9
                  refine hK.out _ _ trivial (fun hHeld => ?_)
                  clear hK K
                  try simp only [Act.put, List.setIfInBounds_toArray, List.set_cons_zero, List.set_cons_succ]
                  refine wpAnyH_take (i := 12) (oi := { dst := some 74, op := Go.Op.fieldAddr 26 (Go.Operand.tmp 9) 2, type := 0, pos := "l16_cost.go:81", after := #[{ on := 0, ground := Go.Ground.phase }, { on := 1, ground := Go.Ground.phase }, { on := 2, ground := Go.Ground.phase }, { on := 3, ground := Go.Ground.phase }, { on := 4, ground := Go.Ground.phase }, { on := 5, ground := Go.Ground.phase }, { on := 6, ground := Go.Ground.phase }, { on := 7, ground := Go.Ground.phase }, { on := 8, ground := Go.Ground.phase }, { on := 9, ground := Go.Ground.phase }, { on := 10, ground := Go.Ground.phase }, { on := 11, ground := Go.Ground.phase }], guard := none }) (v := ?_) rfl (by kernel_rfl) (by kernel_rfl) (by kernel_rfl) (fun _ _ _ h => h) (Or.inl ⟨by rfl, ?_⟩) (by assumption) ?_
                  rotate_left
                  · (intro w hSw; (try dsimp only at hSw); go_simp <;> try with_reducible rfl)
                  try simp only [Act.put, List.setIfInBounds_toArray, List.set_cons_zero, List.set_cons_succ]
                  have y2 : V9.cell? ⟨nb, 2, none⟩ = some (.slice (some ⟨g, 0, none⟩) n1 cp) := T10.out.nx.cell 2
                  have f2 := T10.out.nx.fr 2
                  refine wpAnyH_ready (rs := [13]) (by kernel_rfl) (by simp) ?_
                  refine AllReadyH.cons (o := { dst := none, op := Go.Op.store 24 (Go.Operand.tmp 74) (Go.Operand.tmp 73), type := 0, pos := "l16_cost.go:81", after := #[{ on := 12, ground := Go.Ground.data }, { on := 11, ground := Go.Ground.data }, { on := 11, ground := Go.Ground.chain }, { on := 0, ground := Go.Ground.phase }, { on := 1, ground := Go.Ground.phase }, { on := 2, ground := Go.Ground.phase }, { on := 3, ground := Go.Ground.phase }, { on := 4, ground := Go.Ground.phase }, { on := 5, ground := Go.Ground.phase }, { on := 6, ground := Go.Ground.phase }, { on := 7, ground := Go.Ground.phase }, { on := 8, ground := Go.Ground.phase }, { on := 9, ground := Go.Ground.phase }, { on := 10, ground := Go.Ground.phase }, { on := 11, ground := Go.Ground.phase }], guard := none }) rfl (fun K hK => ?_) (AllReadyH.nil)
                  go_simp
                  have TF := hid (T10.out.lays (cp2 := cq) OWN.out)
                  refine hK.out _ _ trivial (fun hHeld => ?_)
                  clear hK K y2 f2
                  try simp only [Act.put, List.setIfInBounds_toArray, List.set_cons_zero, List.set_cons_succ]
                  refine wpAnyH_done (by kernel_rfl) ?_ _
                  refine NoPanic.normal ?_
                  clear hHeld
                  generalize V9.setCell ⟨nb, 2, none⟩ (.slice aq (n1 - 1) cq) = VF at TF ⊢
                  go_wp2
                  go_roundw
                  case rel => exact ⟨f9 + 1 - 1, n1 - 1, cq, aq, delL c1 0, l1 - xq, k2, rfl, rfl, hcq, TF.out, HI2.out, HF2.out, hid (by have := HL.out; have := HBD.out; omega)⟩
                  case measure => have := HBD.out; simp [intOf]; omega
          · have y2 : V1.cell? ⟨nb, 2, none⟩ = some (.slice (some ⟨g, 0, none⟩) n1 cp) := T2.out.nx.cell 2
            go_simp
            refine hK.out _ _ trivial (fun hHeld => ?_)
            clear hK K y2
            try simp only [Act.put, List.setIfInBounds_toArray, List.set_cons_zero, List.set_cons_succ]
            refine wpAnyH_take (i := 10) (oi := { dst := some 72, op := Go.Op.slice 24 (Go.Operand.tmp 69) (some (Go.Operand.tmp 71)) none none, type := 24, pos := "l16_cost.go:81", after := #[{ on := 7, ground := Go.Ground.data }, { on := 9, ground := Go.Ground.data }], guard := none }) (v := ?_) rfl (by kernel_rfl) (by kernel_rfl) (by kernel_rfl) (fun _ _ _ h => h) (Or.inl ⟨by rfl, ?_⟩) (by assumption) ?_
            rotate_left
            · (intro w hSw; (try dsimp only at hSw); go_simp <;> try with_reducible rfl)
            try simp only [Act.put, List.setIfInBounds_toArray, List.set_cons_zero, List.set_cons_succ]
            refine wpAnyH_ready (rs := [2]) (by kernel_rfl) (by simp) ?_
            refine AllReadyH.cons (o := { dst := some 64, op := Go.Op.load 24 (Go.Operand.tmp 63), type := 24, pos := "l16_cost.go:81", after := #[{ on := 1, ground := Go.Ground.data }], guard := none }) rfl (fun K hK => ?_) (AllReadyH.nil)
            · have y2 : V1.cell? ⟨nb, 2, none⟩ = some (.slice (some ⟨g, 0, none⟩) n1 cp) := T2.out.nx.cell 2
              go_simp
              refine hK.out _ _ trivial (fun hHeld => ?_)
              clear hK K y2
              try simp only [Act.put, List.setIfInBounds_toArray, List.set_cons_zero, List.set_cons_succ]
              refine wpAnyH_take (i := 4) (oi := { dst := some 66, op := Go.Op.slice 24 (Go.Operand.tmp 64) none (some (Go.Operand.tmp 65)) none, type := 24, pos := "l16_cost.go:81", after := #[{ on := 2, ground := Go.Ground.data }, { on := 3, ground := Go.Ground.data }], guard := none }) (v := ?_) rfl (by kernel_rfl) (by kernel_rfl) (by kernel_rfl) (fun _ _ _ h => h) (Or.inl ⟨by rfl, ?_⟩) (by assumption) ?_
              rotate_left
              · (intro w hSw; (try dsimp only at hSw); go_simp <;> try with_reducible rfl)
              try simp only [Act.put, List.setIfInBounds_toArray, List.set_cons_zero, List.set_cons_succ]
              refine wpAnyH_ready (rs := [5]) (by kernel_rfl) (by simp) ?_
              refine AllReadyH.cons (o := { dst := some 67, op := Go.Op.call { callee := Go.Callee.builtin Go.Builtin.append, args := #[Go.Operand.tmp 62, Go.Operand.tmp 66], argTypes := #[24, 24] }, type := 24, pos := "l16_cost.go:81", after := #[{ on := 0, ground := Go.Ground.data }, { on := 4, ground := Go.Ground.data }], guard := none }) rfl (fun K hK => ?_) (AllReadyH.nil)
              · rw [if_pos (by rfl)]
                refine oper_append (Operand.tmp 62) (Operand.tmp 66) 24 rfl (w.heap.size + 2) 40 i4 (.agg #[.int .i64 0, .int .i64 0]) 2 16 Try.underlying24 hi4 hz40 hz41 hz42 rfl (by decide) (.slice (some ⟨eb, 0, none⟩) 0 0) 0 [] rfl (madeLA2 E.out HEB.out.1) ⟨g, 0, none⟩ 0 cp (rowLA2 c1 0) rfl (rowLA2_len _ _) (rowLA2_src (T2.out.ro.row.mono (Nat.le_of_lt hin))) (rowLA2_one _ _) (by unfold maxLen; omega) (by omega) (by have := T2.out.rs.lt; omega) ?_
                intro v5 V11 hown hgr hat5
                rw [Nat.zero_add, List.nil_append] at hown
                have HVB : Hid (∀ r, v5.ownBlock = some r → w.heap.size + 2 ≤ r ∧ r ≠ nb ∧ r ≠ g) := hid (fun r hr => by
          rcases hat5 with e | e
          · rw [e] at hr; simp [Value.ownBlock] at hr; subst hr; exact HEB.out
          · rw [e] at hr; simp at hr; subst hr; exact ⟨by have := T2.out.lt; have := T2.out.nx.lt; omega, by have := T2.out.nx.lt; omega, by obtain ⟨g0, c0, e0, _, _, h0, _⟩ := T2.out.rowA hpos; cases e0; have := h0.lt; omega⟩)
                have T12 := hid (T2.out.grown hgr (fun r hr => by simp [Value.ownBlock] at hr; subst hr; exact ⟨HEB.out.1, HEB.out.2.1, fun x hx => by cases hx; exact HEB.out.2.2⟩))
                have O5 := hid hown
                clear hown hgr hat5
                refine hK.out _ _ trivial (fun hHeld => ?_)
                clear hK K
                try simp only [Act.put, List.setIfInBounds_toArray, List.set_cons_zero, List.set_cons_succ]
                refine wpAnyH_ready (rs := [11]) (by kernel_rfl) (by simp) ?_
                refine AllReadyH.cons (o := { dst := some 73, op := Go.Op.call { callee := Go.Callee.builtin Go.Builtin.append, args := #[Go.Operand.tmp 67, Go.Operand.tmp 72], argTypes := #[24, 24] }, type := 24, pos := "l16_cost.go:81", after := #[{ on := 5, ground := Go.Ground.data }, { on := 10, ground := Go.Ground.data }, { on := 5, ground := Go.Ground.chain }], guard := none }) rfl (fun K hK => ?_) (AllReadyH.nil)
                · rw [if_pos (by rfl)]
                  refine oper_append (Operand.tmp 67) (Operand.tmp 72) 24 rfl (w.heap.size + 2) 40 i4 (.agg #[.int .i64 0, .int .i64 0]) 2 16 Try.underlying24 hi4 hz40 hz41 hz42 rfl (by decide) v5 0 (rowLA2 c1 0) rfl O5.out A (n1 - 1) (cp - 1) (rowLA2 (fun k => c1 (0 + 1 + k)) (n1 - 1)) rfl (rowLA2_len _ _) (HSRC.out _ T12.out) (rowLA2_one _ _) (by unfold maxLen; omega) (by omega) (by have := T12.out.rs.lt; omega) ?_
                  intro v9 V13 hown hgr hat9
                  rw [HEQ.out.1, HEQ.out.2] at hown
                  obtain ⟨aq, cq, rfl, hcq, ho9⟩ := ownLA2_of hown
                  have OWN := hid ho9
                  have T14 := hid (T12.out.grown hgr (fun r hr => ⟨(HVB.out r hr).1, (HVB.out r hr).2.1, fun x hx => by cases hx; exact (HVB.out r hr).2.2⟩))
                  clear hown hgr hat9 ho9
                  refine hK.out _ _ trivial (fun hHeld => ?_)
                  clear hK K
                  try simp only [Act.put, List.setIfInBounds_toArray, List.set_cons_zero, List.set_cons_succ]
                  refine wpAnyH_take (i := 12) (oi := { dst := some 74, op := Go.Op.fieldAddr 26 (Go.Operand.tmp 9) 2, type := 0, pos := "l16_cost.go:81", after := #[{ on := 0, ground := Go.Ground.phase }, { on := 1, ground := Go.Ground.phase }, { on := 2, ground := Go.Ground.phase }, { on := 3, ground := Go.Ground.phase }, { on := 4, ground := Go.Ground.phase }, { on := 5, ground := Go.Ground.phase }, { on := 6, ground := Go.Ground.phase }, { on := 7, ground := Go.Ground.phase }, { on := 8, ground := Go.Ground.phase }, { on := 9, ground := Go.Ground.phase }, { on := 10, ground := Go.Ground.phase }, { on := 11, ground := Go.Ground.phase }], guard := none }) (v := ?_) rfl (by kernel_rfl) (by kernel_rfl) (by kernel_rfl) (fun _ _ _ h => h) (Or.inl ⟨by rfl, ?_⟩) (by assumption) ?_
                  rotate_left
                  · (intro w hSw; (try dsimp only at hSw); go_simp <;> try with_reducible rfl)
                  try simp only [Act.put, List.setIfInBounds_toArray, List.set_cons_zero, List.set_cons_succ]
                  have y2 : V13.cell? ⟨nb, 2, none⟩ = some (.slice (some ⟨g, 0, none⟩) n1 cp) := T14.out.nx.cell 2
                  have f2 := T14.out.nx.fr 2
                  refine wpAnyH_ready (rs := [13]) (by kernel_rfl) (by simp) ?_
                  refine AllReadyH.cons (o := { dst := none, op := Go.Op.store 24 (Go.Operand.tmp 74) (Go.Operand.tmp 73), type := 0, pos := "l16_cost.go:81", after := #[{ on := 12, ground := Go.Ground.data }, { on := 11, ground := Go.Ground.data }, { on := 11, ground := Go.Ground.chain }, { on := 0, ground := Go.Ground.phase }, { on := 1, ground := Go.Ground.phase }, { on := 2, ground := Go.Ground.phase }, { on := 3, ground := Go.Ground.phase }, { on := 4, ground := Go.Ground.phase }, { on := 5, ground := Go.Ground.phase }, { on := 6, ground := Go.Ground.phase }, { on := 7, ground := Go.Ground.phase }, { on := 8, ground := Go.Ground.phase }, { on := 9, ground := Go.Ground.phase }, { on := 10, ground := Go.Ground.phase }, { on := 11, ground := Go.Ground.phase }], guard := none }) rfl (fun K hK => ?_) (AllReadyH.nil)
                  go_simp
                  have TF := hid (T14.out.lays (cp2 := cq) OWN.out)
                  refine hK.out _ _ trivial (fun hHeld => ?_)
                  clear hK K y2 f2
                  try simp only [Act.put, List.setIfInBounds_toArray, List.set_cons_zero, List.set_cons_succ]
                  refine wpAnyH_done (by kernel_rfl) ?_ _
                  refine NoPanic.normal ?_
                  clear hHeld
                  generalize V13.setCell ⟨nb, 2, none⟩ (.slice aq (n1 - 1) cq) = VF at TF ⊢
                  go_wp2
                  go_roundw
                  case rel => exact ⟨f9 + 1 - 1, n1 - 1, cq, aq, delL c1 0, l1 - xq, k2, rfl, rfl, hcq, TF.out, HI2.out, HF2.out, hid (by have := HL.out; have := HBD.out; omega)⟩
                  case measure => have := HBD.out; simp [intOf]; omega
        · have y2 : VD.cell? ⟨nb, 2, none⟩ = some (.slice (some ⟨g, 0, none⟩) n1 cp) := HVD.out.nx.cell 2
          go_simp
          refine hK.out _ _ trivial (fun hHeld => ?_)
          clear hK K y2
          try simp only [Act.put, List.setIfInBounds_toArray, List.set_cons_zero, List.set_cons_succ]
          refine wpAnyH_take (i := 4) (oi := { dst := some 66, op := Go.Op.slice 24 (Go.Operand.tmp 64) none (some (Go.Operand.tmp 65)) none, type := 24, pos := "l16_cost.go:81", after := #[{ on := 2, ground := Go.Ground.data }, { on := 3, ground := Go.Ground.data }], guard := none }) (v := ?_) rfl (by kernel_rfl) (by kernel_rfl) (by kernel_rfl) (fun _ _ _ h => h) (Or.inl ⟨by rfl, ?_⟩) (by assumption) ?_
          rotate_left
          · (intro w hSw; (try dsimp only at hSw); go_simp <;> try with_reducible rfl)
          try simp only [Act.put, List.setIfInBounds_toArray, List.set_cons_zero, List.set_cons_succ]
          refine wpAnyH_ready (rs := [0, 7]) (by kernel_rfl) (by simp) ?_
          refine AllReadyH.cons (o := { dst := some 62, op := Go.Op.buildSlice 24 0 #[], type := 24, pos := "l16_cost.go:81", after := #[], guard := none }) rfl (fun K hK => ?_) (AllReadyH.cons (o := { dst := some 69, op := Go.Op.load 24 (Go.Operand.tmp 68), type := 24, pos := "l16_cost.go:81", after := #[{ on := 6, ground := Go.Ground.data }], guard := none }) rfl (fun K hK => ?_) (AllReadyH.nil))
          · go_simp
            have T16 := hid (HVD.out.alloc (.cells #[] 40 (0, 0)))
            have E : Hid (CB (VD.alloc (.cells #[] 40 (0, 0))) VD.heap.size #[] 40) := hid (CB.new _ _)
            have HEB : Hid (w.heap.size + 2 ≤ VD.heap.size ∧ VD.heap.size ≠ nb ∧ VD.heap.size ≠ g) := hid ⟨by have := HVD.out.lt; have := HVD.out.nx.lt; omega, by have := HVD.out.nx.lt; omega, by obtain ⟨g0, c0, e0, _, _, h0, _⟩ := HVD.out.rowA hpos; cases e0; have := h0.lt; omega⟩
            refine hK.out _ _ trivial (fun hHeld => ?_)
            clear hK K
            try simp only [Act.put, List.setIfInBounds_toArray, List.set_cons_zero, List.set_cons_succ]
            generalize (VD.alloc (.cells #[] 40 (0, 0))) = V15 at T16 E ⊢
            generalize VD.heap.size = eb at E HEB ⊢
            refine wpAnyH_ready (rs := [5, 7]) (by kernel_rfl) (by simp) ?_
            refine AllReadyH.cons (o := { dst := some 67, op := Go.Op.call { callee := Go.Callee.builtin Go.Builtin.append, args := #[Go.Operand.tmp 62, Go.Operand.tmp 66], argTypes := #[24, 24] }, type := 24, pos := "l16_cost.go:81", after := #[{ on := 0, ground := Go.Ground.data }, { on := 4, ground := Go.Ground.data }], guard := none }) rfl (fun K hK => ?_) (AllReadyH.cons (o := { dst := some 69, op := Go.Op.load 24 (Go.Operand.tmp 68), type := 24, pos := "l16_cost.go:81", after := #[{ on := 6, ground := Go.Ground.data }], guard := none }) rfl (fun K hK => ?_) (AllReadyH.nil))
            · rw [if_pos (by rfl)]
              refine oper_append (Operand.tmp 62) (Operand.tmp 66) 24 rfl (w.heap.size + 2) 40 i4 (.agg #[.int .i64 0, .int .i64 0]) 2 16 Try.underlying24 hi4 hz40 hz41 hz42 rfl (by decide) (.slice (some ⟨eb, 0, none⟩) 0 0) 0 [] rfl (madeLA2 E.out HEB.out.1) ⟨g, 0, none⟩ 0 cp (rowLA2 c1 0) rfl (rowLA2_len _ _) (rowLA2_src (T16.out.ro.row.mono (Nat.le_of_lt hin))) (rowLA2_one _ _) (by unfold maxLen; omega) (by omega) (by have := T16.out.rs.lt; omega) ?_
              intro v5 V17 hown hgr hat5
              rw [Nat.zero_add, List.nil_append] at hown
              have HVB : Hid (∀ r, v5.ownBlock = some r → w.heap.size + 2 ≤ r ∧ r ≠ nb ∧ r ≠ g) := hid (fun r hr => by
          rcases hat5 with e | e
          · rw [e] at hr; simp [Value.ownBlock] at hr; subst hr; exact HEB.out
          · rw [e] at hr; simp at hr; subst hr; exact ⟨by have := T16.out.lt; have := T16.out.nx.lt; omega, by have := T16.out.nx.lt; omega, by obtain ⟨g0, c0, e0, _, _, h0, _⟩ := T16.out.rowA hpos; cases e0; have := h0.lt; omega⟩)
              have T18 := hid (T16.out.grown hgr (fun r hr => by simp [Value.ownBlock] at hr; subst hr; exact ⟨HEB.out.1, HEB.out.2.1, fun x hx => by cases hx; exact HEB.out.2.2⟩))
              have O5 := hid hown
              clear hown hgr hat5
              refine hK.out _ _ trivial (fun hHeld => ?_)
              clear hK K
              try simp only [Act.put, List.setIfInBounds_toArray, List.set_cons_zero, List.set_cons_succ]
              refine wpAnyH_ready (rs := [7]) (by kernel_rfl) (by simp) ?_
              refine AllReadyH.cons (o := { dst := some 69, op := Go.Op.load 24 (Go.Operand.tmp 68), type := 24, pos := "l16_cost.go:81", after := #[{ on := 6, ground := Go.Ground.data }], guard := none }) rfl (fun K hK => ?_) (AllReadyH.nil)
              · have y2 : V17.cell? ⟨nb, 2, none⟩ = some (.slice (some ⟨g, 0, none⟩) n1 cp) := T18.out.nx.cell 2
                go_simp
                refine hK.out _ _ trivial (fun hHeld => ?_)
                clear hK K y2
                try simp only [Act.put, List.setIfInBounds_toArray, List.set_cons_zero, List.set_cons_succ]
                refine wpAnyH_take (i := 10) (oi := { dst := some 72, op := Go.Op.slice 24 (Go.Operand.tmp 69) (some (Go.Operand.tmp 71)) none none, type := 24, pos := "l16_cost.go:81", after := #[{ on := 7, ground := Go.Ground.data }, { on := 9, ground := Go.Ground.data }], guard := none }) (v := ?_) rfl (by kernel_rfl) (by kernel_rfl) (by kernel_rfl) (fun _ _ _ h => h) (Or.inl ⟨by rfl, ?_⟩) (by assumption) ?_
                rotate_left
                · (intro w hSw; (try dsimp only at hSw); go_simp <;> try with_reducible rfl)
                try simp only [Act.put, List.setIfInBounds_toArray, List.set_cons_zero, List.set_cons_succ]
                refine wpAnyH_ready (rs := [11]) (by kernel_rfl) (by simp) ?_
                refine AllReadyH.cons (o := { dst := some 73, op := Go.Op.call { callee := Go.Callee.builtin Go.Builtin.append, args := #[Go.Operand.tmp 67, Go.Operand.tmp 72], argTypes := #[24, 24] }, type := 24, pos := "l16_cost.go:81", after := #[{ on := 5, ground := Go.Ground.data }, { on := 10, ground := Go.Ground.data }, { on := 5, ground := Go.Ground.chain }], guard := none }) rfl (fun K hK => ?_) (AllReadyH.nil)
                · rw [if_pos (by rfl)]
                  refine oper_append (Operand.tmp 67) (Operand.tmp 72) 24 rfl (w.heap.size + 2) 40 i4 (.agg #[.int .i64 0, .int .i64 0]) 2 16 Try.underlying24 hi4 hz40 hz41 hz42 rfl (by decide) v5 0 (rowLA2 c1 0) rfl O5.out A (n1 - 1) (cp - 1) (rowLA2 (fun k => c1 (0 + 1 + k)) (n1 - 1)) rfl (rowLA2_len _ _) (HSRC.out _ T18.out) (rowLA2_one _ _) (by unfold maxLen; omega) (by omega) (by have := T18.out.rs.lt; omega) ?_
                  intro v9 V19 hown hgr hat9
                  rw [HEQ.out.1, HEQ.out.2] at hown
                  obtain ⟨aq, cq, rfl, hcq, ho9⟩ := ownLA2_of hown
                  have OWN := hid ho9
                  have T20 := hid (T18.out.grown hgr (fun r hr => ⟨(HVB.out r hr).1, (HVB.out r hr).2.1, fun x hx => by cases hx; exact (HVB.out r hr).2.2⟩))
                  clear hown hgr hat9 ho9
                  refine hK.out _ _ trivial (fun hHeld => ?_)
                  clear hK K
                  try simp only [Act.put, List.setIfInBounds_toArray, List.set_cons_zero, List.set_cons_succ]
                  refine wpAnyH_take (i := 12) (oi := { dst := some 74, op := Go.Op.fieldAddr 26 (Go.Operand.tmp 9) 2, type := 0, pos := "l16_cost.go:81", after := #[{ on := 0, ground := Go.Ground.phase }, { on := 1, ground := Go.Ground.phase }, { on := 2, ground := Go.Ground.phase }, { on := 3, ground := Go.Ground.phase }, { on := 4, ground := Go.Ground.phase }, { on := 5, ground := Go.Ground.phase }, { on := 6, ground := Go.Ground.phase }, { on := 7, ground := Go.Ground.phase }, { on := 8, ground := Go.Ground.phase }, { on := 9, ground := Go.Ground.phase }, { on := 10, ground := Go.Ground.phase }, { on := 11, ground := Go.Ground.phase }], guard := none }) (v := ?_) rfl (by kernel_rfl) (by kernel_rfl) (by kernel_rfl) (fun _ _ _ h => h) (Or.inl ⟨by rfl, ?_⟩) (by assumption) ?_
                  rotate_left
                  · (intro w hSw; (try dsimp only at hSw); go_simp <;> try with_reducible rfl)
                  try simp only [Act.put, List.setIfInBounds_toArray, List.set_cons_zero, List.set_cons_succ]
                  have y2 : V19.cell? ⟨nb, 2, none⟩ = some (.slice (some ⟨g, 0, none⟩) n1 cp) := T20.out.nx.cell 2
                  have f2 := T20.out.nx.fr 2
                  refine wpAnyH_ready (rs := [13]) (by kernel_rfl) (by simp) ?_
                  refine AllReadyH.cons (o := { dst := none, op := Go.Op.store 24 (Go.Operand.tmp 74) (Go.Operand.tmp 73), type := 0, pos := "l16_cost.go:81", after := #[{ on := 12, ground := Go.Ground.data }, { on := 11, ground := Go.Ground.data }, { on := 11, ground := Go.Ground.chain }, { on := 0, ground := Go.Ground.phase }, { on := 1, ground := Go.Ground.phase }, { on := 2, ground := Go.Ground.phase }, { on := 3, ground := Go.Ground.phase }, { on := 4, ground := Go.Ground.phase }, { on := 5, ground := Go.Ground.phase }, { on := 6, ground := Go.Ground.phase }, { on := 7, ground := Go.Ground.phase }, { on := 8, ground := Go.Ground.phase }, { on := 9, ground := Go.Ground.phase }, { on := 10, ground := Go.Ground.phase }, { on := 11, ground := Go.Ground.phase }], guard := none }) rfl (fun K hK => ?_) (AllReadyH.nil)
                  go_simp
                  have TF := hid (T20.out.lays (cp2 := cq) OWN.out)
                  refine hK.out _ _ trivial (fun hHeld => ?_)
                  clear hK K y2 f2
                  try simp only [Act.put, List.setIfInBounds_toArray, List.set_cons_zero, List.set_cons_succ]
                  refine wpAnyH_done (by kernel_rfl) ?_ _
                  refine NoPanic.normal ?_
                  clear hHeld
                  generalize V19.setCell ⟨nb, 2, none⟩ (.slice aq (n1 - 1) cq) = VF at TF ⊢
                  go_wp2
                  go_roundw
                  case rel => exact ⟨f9 + 1 - 1, n1 - 1, cq, aq, delL c1 0, l1 - xq, k2, rfl, rfl, hcq, TF.out, HI2.out, HF2.out, hid (by have := HL.out; have := HBD.out; omega)⟩
                  case measure => have := HBD.out; simp [intOf]; omega
            · have y2 : V15.cell? ⟨nb, 2, none⟩ = some (.slice (some ⟨g, 0, none⟩) n1 cp) := T16.out.nx.cell 2
              go_simp
              refine hK.out _ _ trivial (fun hHeld => ?_)
              clear hK K y2
              try simp only [Act.put, List.setIfInBounds_toArray, List.set_cons_zero, List.set_cons_succ]
              refine wpAnyH_take (i := 10) (oi := { dst := some 72, op := Go.Op.slice 24 (Go.Operand.tmp 69) (some (Go.Operand.tmp 71)) none none, type := 24, pos := "l16_cost.go:81", after := #[{ on := 7, ground := Go.Ground.data }, { on := 9, ground := Go.Ground.data }], guard := none }) (v := ?_) rfl (by kernel_rfl) (by kernel_rfl) (by kernel_rfl) (fun _ _ _ h => h) (Or.inl ⟨by rfl, ?_⟩) (by assumption) ?_
              rotate_left
              · (intro w hSw; (try dsimp only at hSw); go_simp <;> try with_reducible rfl)
              try simp only [Act.put, List.setIfInBounds_toArray, List.set_cons_zero, List.set_cons_succ]
              refine wpAnyH_ready (rs := [5]) (by kernel_rfl) (by simp) ?_
              refine AllReadyH.cons (o := { dst := some 67, op := Go.Op.call { callee := Go.Callee.builtin Go.Builtin.append, args := #[Go.Operand.tmp 62, Go.Operand.tmp 66], argTypes := #[24, 24] }, type := 24, pos := "l16_cost.go:81", after := #[{ on := 0, ground := Go.Ground.data }, { on := 4, ground := Go.Ground.data }], guard := none }) rfl (fun K hK => ?_) (AllReadyH.nil)
              · rw [if_pos (by rfl)]
                refine oper_append (Operand.tmp 62) (Operand.tmp 66) 24 rfl (w.heap.size + 2) 40 i4 (.agg #[.int .i64 0, .int .i64 0]) 2 16 Try.underlying24 hi4 hz40 hz41 hz42 rfl (by decide) (.slice (some ⟨eb, 0, none⟩) 0 0) 0 [] rfl (madeLA2 E.out HEB.out.1) ⟨g, 0, none⟩ 0 cp (rowLA2 c1 0) rfl (rowLA2_len _ _) (rowLA2_src (T16.out.ro.row.mono (Nat.le_of_lt hin))) (rowLA2_one _ _) (by unfold maxLen; omega) (by omega) (by have := T16.out.rs.lt; omega) ?_
                intro v5 V21 hown hgr hat5
                rw [Nat.zero_add, List.nil_append] at hown
                have HVB : Hid (∀ r, v5.ownBlock = some r → w.heap.size + 2 ≤ r ∧ r ≠ nb ∧ r ≠ g) := hid (fun r hr => by
          rcases hat5 with e | e
          · rw [e] at hr; simp [Value.ownBlock] at hr; subst hr; exact HEB.out
          · rw [e] at hr; simp at hr; subst hr; exact ⟨by have := T16.out.lt; have := T16.out.nx.lt; omega, by have := T16.out.nx.lt; omega, by obtain ⟨g0, c0, e0, _, _, h0, _⟩ := T16.out.rowA hpos; cases e0; have := h0.lt; omega⟩)
                have T22 := hid (T16.out.grown hgr (fun r hr => by simp [Value.ownBlock] at hr; subst hr; exact ⟨HEB.out.1, HEB.out.2.1, fun x hx => by cases hx; exact HEB.out.2.2⟩))
                have O5 := hid hown
                clear hown hgr hat5
                refine hK.out _ _ trivial (fun hHeld => ?_)
                clear hK K
                try simp only [Act.put, List.setIfInBounds_toArray, List.set_cons_zero, List.set_cons_succ]
                refine wpAnyH_ready (rs := [11]) (by kernel_rfl) (by simp) ?_
                refine AllReadyH.cons (o := { dst := some 73, op := Go.Op.call { callee := Go.Callee.builtin Go.Builtin.append, args := #[Go.Operand.tmp 67, Go.Operand.tmp 72], argTypes := #[24, 24] }, type := 24, pos := "l16_cost.go:81", after := #[{ on := 5, ground := Go.Ground.data }, { on := 10, ground := Go.Ground.data }, { on := 5, ground := Go.Ground.chain }], guard := none }) rfl (fun K hK => ?_) (AllReadyH.nil)
                · rw [if_pos (by rfl)]
                  refine oper_append (Operand.tmp 67) (Operand.tmp 72) 24 rfl (w.heap.size + 2) 40 i4 (.agg #[.int .i64 0, .int .i64 0]) 2 16 Try.underlying24 hi4 hz40 hz41 hz42 rfl (by decide) v5 0 (rowLA2 c1 0) rfl O5.out A (n1 - 1) (cp - 1) (rowLA2 (fun k => c1 (0 + 1 + k)) (n1 - 1)) rfl (rowLA2_len _ _) (HSRC.out _ T22.out) (rowLA2_one _ _) (by unfold maxLen; omega) (by omega) (by have := T22.out.rs.lt; omega) ?_
                  intro v9 V23 hown hgr hat9
                  rw [HEQ.out.1, HEQ.out.2] at hown
                  obtain ⟨aq, cq, rfl, hcq, ho9⟩ := ownLA2_of hown
                  have OWN := hid ho9
                  have T24 := hid (T22.out.grown hgr (fun r hr => ⟨(HVB.out r hr).1, (HVB.out r hr).2.1, fun x hx => by cases hx; exact (HVB.out r hr).2.2⟩))
                  clear hown hgr hat9 ho9
                  refine hK.out _ _ trivial (fun hHeld => ?_)
                  clear hK K
                  try simp only [Act.put, List.setIfInBounds_toArray, List.set_cons_zero, List.set_cons_succ]
                  refine wpAnyH_take (i := 12) (oi := { dst := some 74, op := Go.Op.fieldAddr 26 (Go.Operand.tmp 9) 2, type := 0, pos := "l16_cost.go:81", after := #[{ on := 0, ground := Go.Ground.phase }, { on := 1, ground := Go.Ground.phase }, { on := 2, ground := Go.Ground.phase }, { on := 3, ground := Go.Ground.phase }, { on := 4, ground := Go.Ground.phase }, { on := 5, ground := Go.Ground.phase }, { on := 6, ground := Go.Ground.phase }, { on := 7, ground := Go.Ground.phase }, { on := 8, ground := Go.Ground.phase }, { on := 9, ground := Go.Ground.phase }, { on := 10, ground := Go.Ground.phase }, { on := 11, ground := Go.Ground.phase }], guard := none }) (v := ?_) rfl (by kernel_rfl) (by kernel_rfl) (by kernel_rfl) (fun _ _ _ h => h) (Or.inl ⟨by rfl, ?_⟩) (by assumption) ?_
                  rotate_left
                  · (intro w hSw; (try dsimp only at hSw); go_simp <;> try with_reducible rfl)
                  try simp only [Act.put, List.setIfInBounds_toArray, List.set_cons_zero, List.set_cons_succ]
                  have y2 : V23.cell? ⟨nb, 2, none⟩ = some (.slice (some ⟨g, 0, none⟩) n1 cp) := T24.out.nx.cell 2
                  have f2 := T24.out.nx.fr 2
                  refine wpAnyH_ready (rs := [13]) (by kernel_rfl) (by simp) ?_
                  refine AllReadyH.cons (o := { dst := none, op := Go.Op.store 24 (Go.Operand.tmp 74) (Go.Operand.tmp 73), type := 0, pos := "l16_cost.go:81", after := #[{ on := 12, ground := Go.Ground.data }, { on := 11, ground := Go.Ground.data }, { on := 11, ground := Go.Ground.chain }, { on := 0, ground := Go.Ground.phase }, { on := 1, ground := Go.Ground.phase }, { on := 2, ground := Go.Ground.phase }, { on := 3, ground := Go.Ground.phase }, { on := 4, ground := Go.Ground.phase }, { on := 5, ground := Go.Ground.phase }, { on := 6, ground := Go.Ground.phase }, { on := 7, ground := Go.Ground.phase }, { on := 8, ground := Go.Ground.phase }, { on := 9, ground := Go.Ground.phase }, { on := 10, ground := Go.Ground.phase }, { on := 11, ground := Go.Ground.phase }], guard := none }) rfl (fun K hK => ?_) (AllReadyH.nil)
                  go_simp
                  have TF := hid (T24.out.lays (cp2 := cq) OWN.out)
                  refine hK.out _ _ trivial (fun hHeld => ?_)
                  clear hK K y2 f2
                  try simp only [Act.put, List.setIfInBounds_toArray, List.set_cons_zero, List.set_cons_succ]
                  refine wpAnyH_done (by kernel_rfl) ?_ _
                  refine NoPanic.normal ?_
                  clear hHeld
                  generalize V23.setCell ⟨nb, 2, none⟩ (.slice aq (n1 - 1) cq) = VF at TF ⊢
                  go_wp2
                  go_roundw
                  case rel => exact ⟨f9 + 1 - 1, n1 - 1, cq, aq, delL c1 0, l1 - xq, k2, rfl, rfl, hcq, TF.out, HI2.out, HF2.out, hid (by have := HL.out; have := HBD.out; omega)⟩
                  case measure => have := HBD.out; simp [intOf]; omega
          · have y2 : VD.cell? ⟨nb, 2, none⟩ = some (.slice (some ⟨g, 0, none⟩) n1 cp) := HVD.out.nx.cell 2
            go_simp
            refine hK.out _ _ trivial (fun hHeld => ?_)
            clear hK K y2
            try simp only [Act.put, List.setIfInBounds_toArray, List.set_cons_zero, List.set_cons_succ]
            refine wpAnyH_take (i := 10) (oi := { dst := some 72, op := Go.Op.slice 24 (Go.Operand.tmp 69) (some (Go.Operand.tmp 71)) none none, type := 24, pos := "l16_cost.go:81", after := #[{ on := 7, ground := Go.Ground.data }, { on := 9, ground := Go.Ground.data }], guard := none }) (v := ?_) rfl (by kernel_rfl) (by kernel_rfl) (by kernel_rfl) (fun _ _ _ h => h) (Or.inl ⟨by rfl, ?_⟩) (by assumption) ?_
            rotate_left
            · (intro w hSw; (try dsimp only at hSw); go_simp <;> try with_reducible rfl)
            try simp only [Act.put, List.setIfInBounds_toArray, List.set_cons_zero, List.set_cons_succ]
            refine wpAnyH_ready (rs := [0]) (by kernel_rfl) (by simp) ?_
            refine AllReadyH.cons (o := { dst := some 62, op := Go.Op.buildSlice 24 0 #[], type := 24, pos := "l16_cost.go:81", after := #[], guard := none }) rfl (fun K hK => ?_) (AllReadyH.nil)
            · go_simp
              have T26 := hid (HVD.out.alloc (.cells #[] 40 (0, 0)))
              have E : Hid (CB (VD.alloc (.cells #[] 40 (0, 0))) VD.heap.size #[] 40) := hid (CB.new _ _)
              have HEB : Hid (w.heap.size + 2 ≤ VD.heap.size ∧ VD.heap.size ≠ nb ∧ VD.heap.size ≠ g) := hid ⟨by have := HVD.out.lt; have := HVD.out.nx.lt; omega, by have := HVD.out.nx.lt; omega, by obtain ⟨g0, c0, e0, _, _, h0, _⟩ := HVD.out.rowA hpos; cases e0; have := h0.lt; omega⟩
              refine hK.out _ _ trivial (fun hHeld => ?_)
              clear hK K
              try simp only [Act.put, List.setIfInBounds_toArray, List.set_cons_zero, List.set_cons_succ]
              generalize (VD.alloc (.cells #[] 40 (0, 0))) = V25 at T26 E ⊢
              generalize VD.heap.size = eb at E HEB ⊢
              refine wpAnyH_ready (rs := [5]) (by kernel_rfl) (by simp) ?_
              refine AllReadyH.cons (o := { dst := some 67, op := Go.Op.call { callee := Go.Callee.builtin Go.Builtin.append, args := #[Go.Operand.tmp 62, Go.Operand.tmp 66], argTypes := #[24, 24] }, type := 24, pos := "l16_cost.go:81", after := #[{ on := 0, ground := Go.Ground.data }, { on := 4, ground := Go.Ground.data }], guard := none }) rfl (fun K hK => ?_) (AllReadyH.nil)
              · rw [if_pos (by rfl)]
                refine oper_append (Operand.tmp 62) (Operand.tmp 66) 24 rfl (w.heap.size + 2) 40 i4 (.agg #[.int .i64 0, .int .i64 0]) 2 16 Try.underlying24 hi4 hz40 hz41 hz42 rfl (by decide) (.slice (some ⟨eb, 0, none⟩) 0 0) 0 [] rfl (madeLA2 E.out HEB.out.1) ⟨g, 0, none⟩ 0 cp (rowLA2 c1 0) rfl (rowLA2_len _ _) (rowLA2_src (T26.out.ro.row.mono (Nat.le_of_lt hin))) (rowLA2_one _ _) (by unfold maxLen; omega) (by omega) (by have := T26.out.rs.lt; omega) ?_
                intro v5 V27 hown hgr hat5
                rw [Nat.zero_add, List.nil_append] at hown
                have HVB : Hid (∀ r, v5.ownBlock = some r → w.heap.size + 2 ≤ r ∧ r ≠ nb ∧ r ≠ g) := hid (fun r hr => by
          rcases hat5 with e | e
          · rw [e] at hr; simp [Value.ownBlock] at hr; subst hr; exact HEB.out
          · rw [e] at hr; simp at hr; subst hr; exact ⟨by have := T26.out.lt; have := T26.out.nx.lt; omega, by have := T26.out.nx.lt; omega, by obtain ⟨g0, c0, e0, _, _, h0, _⟩ := T26.out.rowA hpos; cases e0; have := h0.lt; omega⟩)
                have T28 := hid (T26.out.grown hgr (fun r hr => by simp [Value.ownBlock] at hr; subst hr; exact ⟨HEB.out.1, HEB.out.2.1, fun x hx => by cases hx; exact HEB.out.2.2⟩))
                have O5 := hid hown
                clear hown hgr hat5
                refine hK.out _ _ trivial (fun hHeld => ?_)
                clear hK K
                try simp only [Act.put, List.setIfInBounds_toArray, List.set_cons_zero, List.set_cons_succ]
                refine wpAnyH_ready (rs := [11]) (by kernel_rfl) (by simp) ?_
                refine AllReadyH.cons (o := { dst := some 73, op := Go.Op.call { callee := Go.Callee.builtin Go.Builtin.append, args := #[Go.Operand.tmp 67, Go.Operand.tmp 72], argTypes := #[24, 24] }, type := 24, pos := "l16_cost.go:81", after := #[{ on := 5, ground := Go.Ground.data }, { on := 10, ground := Go.Ground.data }, { on := 5, ground := Go.Ground.chain }], guard := none }) rfl (fun K hK => ?_) (AllReadyH.nil)
                · rw [if_pos (by rfl)]
                  refine oper_append (Operand.tmp 67) (Operand.tmp 72) 24 rfl (w.heap.size + 2) 40 i4 (.agg #[.int .i64 0, .int .i64 0]) 2 16 Try.underlying24 hi4 hz40 hz41 hz42 rfl (by decide) v5 0 (rowLA2 c1 0) rfl O5.out A (n1 - 1) (cp - 1) (rowLA2 (fun k => c1 (0 + 1 + k)) (n1 - 1)) rfl (rowLA2_len _ _) (HSRC.out _ T28.out) (rowLA2_one _ _) (by unfold maxLen; omega) (by omega) (by have := T28.out.rs.lt; omega) ?_
                  intro v9 V29 hown hgr hat9
                  rw [HEQ.out.1, HEQ.out.2] at hown
                  obtain ⟨aq, cq, rfl, hcq, ho9⟩ := ownLA2_of hown
                  have OWN := hid ho9
                  have T30 := hid (T28.out.grown hgr (fun r hr => ⟨(HVB.out r hr).1, (HVB.out r hr).2.1, fun x hx => by cases hx; exact (HVB.out r hr).2.2⟩))
                  clear hown hgr hat9 ho9
                  refine hK.out _ _ trivial (fun hHeld => ?_)
                  clear hK K
                  try simp only [Act.put, List.setIfInBounds_toArray, List.set_cons_zero, List.set_cons_succ]
                  refine wpAnyH_take (i := 12) (oi := { dst := some 74, op := Go.Op.fieldAddr 26 (Go.Operand.tmp 9) 2, type := 0, pos := "l16_cost.go:81", after := #[{ on := 0, ground := Go.Ground.phase }, { on := 1, ground := Go.Ground.phase }, { on := 2, ground := Go.Ground.phase }, { on := 3, ground := Go.Ground.phase }, { on := 4, ground := Go.Ground.phase }, { on := 5, ground := Go.Ground.phase }, { on := 6, ground := Go.Ground.phase }, { on := 7, ground := Go.Ground.phase }, { on := 8, ground := Go.Ground.phase }, { on := 9, ground := Go.Ground.phase }, { on := 10, ground := Go.Ground.phase }, { on := 11, ground := Go.Ground.phase }], guard := none }) (v := ?_) rfl (by kernel_rfl) (by kernel_rfl) (by kernel_rfl) (fun _ _ _ h => h) (Or.inl ⟨by rfl, ?_⟩) (by assumption) ?_
                  rotate_left
                  · (intro w hSw; (try dsimp only at hSw); go_simp <;> try with_reducible rfl)
                  try simp only [Act.put, List.setIfInBounds_toArray, List.set_cons_zero, List.set_cons_succ]
                  have y2 : V29.cell? ⟨nb, 2, none⟩ = some (.slice (some ⟨g, 0, none⟩) n1 cp) := T30.out.nx.cell 2
                  have f2 := T30.out.nx.fr 2
                  refine wpAnyH_ready (rs := [13]) (by kernel_rfl) (by simp) ?_
                  refine AllReadyH.cons (o := { dst := none, op := Go.Op.store 24 (Go.Operand.tmp 74) (Go.Operand.tmp 73), type := 0, pos := "l16_cost.go:81", after := #[{ on := 12, ground := Go.Ground.data }, { on := 11, ground := Go.Ground.data }, { on := 11, ground := Go.Ground.chain }, { on := 0, ground := Go.Ground.phase }, { on := 1, ground := Go.Ground.phase }, { on := 2, ground := Go.Ground.phase }, { on := 3, ground := Go.Ground.phase }, { on := 4, ground := Go.Ground.phase }, { on := 5, ground := Go.Ground.phase }, { on := 6, ground := Go.Ground.phase }, { on := 7, ground := Go.Ground.phase }, { on := 8, ground := Go.Ground.phase }, { on := 9, ground := Go.Ground.phase }, { on := 10, ground := Go.Ground.phase }, { on := 11, ground := Go.Ground.phase }], guard := none }) rfl (fun K hK => ?_) (AllReadyH.nil)
                  go_simp
                  have TF := hid (T30.out.lays (cp2 := cq) OWN.out)
                  refine hK.out _ _ trivial (fun hHeld => ?_)
                  clear hK K y2 f2
                  try simp only [Act.put, List.setIfInBounds_toArray, List.set_cons_zero, List.set_cons_succ]
                  refine wpAnyH_done (by kernel_rfl) ?_ _
                  refine NoPanic.normal ?_
                  clear hHeld
                  generalize V29.setCell ⟨nb, 2, none⟩ (.slice aq (n1 - 1) cq) = VF at TF ⊢
                  go_wp2
                  go_roundw
                  case rel => exact ⟨f9 + 1 - 1, n1 - 1, cq, aq, delL c1 0, l1 - xq, k2, rfl, rfl, hcq, TF.out, HI2.out, HF2.out, hid (by have := HL.out; have := HBD.out; omega)⟩
                  case measure => have := HBD.out; simp [intOf]; omega
        · have y2 : VD.cell? ⟨nb, 2, none⟩ = some (.slice (some ⟨g, 0, none⟩) n1 cp) := HVD.out.nx.cell 2
          go_simp
          refine hK.out _ _ trivial (fun hHeld => ?_)
          clear hK K y2
          try simp only [Act.put, List.setIfInBounds_toArray, List.set_cons_zero, List.set_cons_succ]
          refine wpAnyH_take (i := 10) (oi := { dst := some 72, op := Go.Op.slice 24 (Go.Operand.tmp 69) (some (Go.Operand.tmp 71)) none none, type := 24, pos := "l16_cost.go:81", after := #[{ on := 7, ground := Go.Ground.data }, { on := 9, ground := Go.Ground.data }], guard := none }) (v := ?_) rfl (by kernel_rfl) (by kernel_rfl) (by kernel_rfl) (fun _ _ _ h => h) (Or.inl ⟨by rfl, ?_⟩) (by assumption) ?_
          rotate_left
          · (intro w hSw; (try dsimp only at hSw); go_simp <;> try with_reducible rfl)
          try simp only [Act.put, List.setIfInBounds_toArray, List.set_cons_zero, List.set_cons_succ]
          refine wpAnyH_ready (rs := [0, 2]) (by kernel_rfl) (by simp) ?_
          refine AllReadyH.cons (o := { dst := some 62, op := Go.Op.buildSlice 24 0 #[], type := 24, pos := "l16_cost.go:81", after := #[], guard := none }) rfl (fun K hK => ?_) (AllReadyH.cons (o := { dst := some 64, op := Go.Op.load 24 (Go.Operand.tmp 63), type := 24, pos := "l16_cost.go:81", after := #[{ on := 1, ground := Go.Ground.data }], guard := none }) rfl (fun K hK => ?_) (AllReadyH.nil))
          · go_simp
            have T32 := hid (HVD.out.alloc (.cells #[] 40 (0, 0)))
            have E : Hid (CB (VD.alloc (.cells #[] 40 (0, 0))) VD.heap.size #[] 40) := hid (CB.new _ _)
            have HEB : Hid (w.heap.size + 2 ≤ VD.heap.size ∧ VD.heap.size ≠ nb ∧ VD.heap.size ≠ g) := hid ⟨by have := HVD.out.lt; have := HVD.out.nx.lt; omega, by have := HVD.out.nx.lt; omega, by obtain ⟨g0, c0, e0, _, _, h0, _⟩ := HVD.out.rowA hpos; cases e0; have := h0.lt; omega⟩
            refine hK.out _ _ trivial (fun hHeld => ?_)
            clear hK K
            try simp only [Act.put, List.setIfInBounds_toArray, List.set_cons_zero, List.set_cons_succ]
            generalize (VD.alloc (.cells #[] 40 (0, 0))) = V31 at T32 E ⊢
            generalize VD.heap.size = eb at E HEB ⊢
            refine wpAnyH_ready (rs := [2]) (by kernel_rfl) (by simp) ?_
            refine AllReadyH.cons (o := { dst := some 64, op := Go.Op.load 24 (Go.Operand.tmp 63), type := 24, pos := "l16_cost.go:81", after := #[{ on := 1, ground := Go.Ground.data }], guard := none }) rfl (fun K hK => ?_) (AllReadyH.nil)
            · have y2 : V31.cell? ⟨nb, 2, none⟩ = some (.slice (some ⟨g, 0, none⟩) n1 cp) := T32.out.nx.cell 2
              go_simp
              refine hK.out _ _ trivial (fun hHeld => ?_)
              clear hK K y2
              try simp only [Act.put, List.setIfInBounds_toArray, List.set_cons_zero, List.set_cons_succ]
              refine wpAnyH_take (i := 4) (oi := { dst := some 66, op := Go.Op.slice 24 (Go.Operand.tmp 64) none (some (Go.Operand.tmp 65)) none, type := 24, pos := "l16_cost.go:81", after := #[{ on := 2, ground := Go.Ground.data }, { on := 3, ground := Go.Ground.data }], guard := none }) (v := ?_) rfl (by kernel_rfl) (by kernel_rfl) (by kernel_rfl) (fun _ _ _ h => h) (Or.inl ⟨by rfl, ?_⟩) (by assumption) ?_
              rotate_left
              · (intro w hSw; (try dsimp only at hSw); go_simp <;> try with_reducible rfl)
              try simp only [Act.put, List.setIfInBounds_toArray, List.set_cons_zero, List.set_cons_succ]
              refine wpAnyH_ready (rs := [5]) (by kernel_rfl) (by simp) ?_
              refine AllReadyH.cons (o := { dst := some 67, op := Go.Op.call { callee := Go.Callee.builtin Go.Builtin.append, args := #[Go.Operand.tmp 62, Go.Operand.tmp 66], argTypes := #[24, 24] }, type := 24, pos := "l16_cost.go:81", after := #[{ on := 0, ground := Go.Ground.data }, { on := 4, ground := Go.Ground.data }], guard := none }) rfl (fun K hK => ?_) (AllReadyH.nil)
              · rw [if_pos (by rfl)]
                refine oper_append (Operand.tmp 62) (Operand.tmp 66) 24 rfl (w.heap.size + 2) 40 i4 (.agg #[.int .i64 0, .int .i64 0]) 2 16 Try.underlying24 hi4 hz40 hz41 hz42 rfl (by decide) (.slice (some ⟨eb, 0, none⟩) 0 0) 0 [] rfl (madeLA2 E.out HEB.out.1) ⟨g, 0, none⟩ 0 cp (rowLA2 c1 0) rfl (rowLA2_len _ _) (rowLA2_src (T32.out.ro.row.mono (Nat.le_of_lt hin))) (rowLA2_one _ _) (by unfold maxLen; omega) (by omega) (by have := T32.out.rs.lt; omega) ?_
                intro v5 V33 hown hgr hat5
                rw [Nat.zero_add, List.nil_append] at hown
                have HVB : Hid (∀ r, v5.ownBlock = some r → w.heap.size + 2 ≤ r ∧ r ≠ nb ∧ r ≠ g) := hid (fun r hr => by
          rcases hat5 with e | e
          · rw [e] at hr; simp [Value.ownBlock] at hr; subst hr; exact HEB.out
          · rw [e] at hr; simp at hr; subst hr; exact ⟨by have := T32.out.lt; have := T32.out.nx.lt; omega, by have := T32.out.nx.lt; omega, by obtain ⟨g0, c0, e0, _, _, h0, _⟩ := T32.out.rowA hpos; cases e0; have := h0.lt; omega⟩)
                have T34 := hid (T32.out.grown hgr (fun r hr => by simp [Value.ownBlock] at hr; subst hr; exact ⟨HEB.out.1, HEB.out.2.1, fun x hx => by cases hx; exact HEB.out.2.2⟩))
                have O5 := hid hown
                clear hown hgr hat5
                refine hK.out _ _ trivial (fun hHeld => ?_)
                clear hK K
                try simp only [Act.put, List.setIfInBounds_toArray, List.set_cons_zero, List.set_cons_succ]
                refine wpAnyH_ready (rs := [11]) (by kernel_rfl) (by simp) ?_
                refine AllReadyH.cons (o := { dst := some 73, op := Go.Op.call { callee := Go.Callee.builtin Go.Builtin.append, args := #[Go.Operand.tmp 67, Go.Operand.tmp 72], argTypes := #[24, 24] }, type := 24, pos := "l16_cost.go:81", after := #[{ on := 5, ground := Go.Ground.data }, { on := 10, ground := Go.Ground.data }, { on := 5, ground := Go.Ground.chain }], guard := none }) rfl (fun K hK => ?_) (AllReadyH.nil)
                · rw [if_pos (by rfl)]
                  refine oper_append (Operand.tmp 67) (Operand.tmp 72) 24 rfl (w.heap.size + 2) 40 i4 (.agg #[.int .i64 0, .int .i64 0]) 2 16 Try.underlying24 hi4 hz40 hz41 hz42 rfl (by decide) v5 0 (rowLA2 c1 0) rfl O5.out A (n1 - 1) (cp - 1) (rowLA2 (fun k => c1 (0 + 1 + k)) (n1 - 1)) rfl (rowLA2_len _ _) (HSRC.out _ T34.out) (rowLA2_one _ _) (by unfold maxLen; omega) (by omega) (by have := T34.out.rs.lt; omega) ?_
                  intro v9 V35 hown hgr hat9
                  rw [HEQ.out.1, HEQ.out.2] at hown
                  obtain ⟨aq, cq, rfl, hcq, ho9⟩ := ownLA2_of hown
                  have OWN := hid ho9
                  have T36 := hid (T34.out.grown hgr (fun r hr => ⟨(HVB.out r hr).1, (HVB.out r hr).2.1, fun x hx => by cases hx; exact (HVB.out r hr).2.2⟩))
                  clear hown hgr hat9 ho9
                  refine hK.out _ _ trivial (fun hHeld => ?_)
                  clear hK K
                  try simp only [Act.put, List.setIfInBounds_toArray, List.set_cons_zero, List.set_cons_succ]
                  refine wpAnyH_take (i := 12) (oi := { dst := some 74, op := Go.Op.fieldAddr 26 (Go.Operand.tmp 9) 2, type := 0, pos := "l16_cost.go:81", after := #[{ on := 0, ground := Go.Ground.phase }, { on := 1, ground := Go.Ground.phase }, { on := 2, ground := Go.Ground.phase }, { on := 3, ground := Go.Ground.phase }, { on := 4, ground := Go.Ground.phase }, { on := 5, ground := Go.Ground.phase }, { on := 6, ground := Go.Ground.phase }, { on := 7, ground := Go.Ground.phase }, { on := 8, ground := Go.Ground.phase }, { on := 9, ground := Go.Ground.phase }, { on := 10, ground := Go.Ground.phase }, { on := 11, ground := Go.Ground.phase }], guard := none }) (v := ?_) rfl (by kernel_rfl) (by kernel_rfl) (by kernel_rfl) (fun _ _ _ h => h) (Or.inl ⟨by rfl, ?_⟩) (by assumption) ?_
                  rotate_left
                  · (intro w hSw; (try dsimp only at hSw); go_simp <;> try with_reducible rfl)
                  try simp only [Act.put, List.setIfInBounds_toArray, List.set_cons_zero, List.set_cons_succ]
                  have y2 : V35.cell? ⟨nb, 2, none⟩ = some (.slice (some ⟨g, 0, none⟩) n1 cp) := T36.out.nx.cell 2
                  have f2 := T36.out.nx.fr 2
                  refine wpAnyH_ready (rs := [13]) (by kernel_rfl) (by simp) ?_
                  refine AllReadyH.cons (o := { dst := none, op := Go.Op.store 24 (Go.Operand.tmp 74) (Go.Operand.tmp 73), type := 0, pos := "l16_cost.go:81", after := #[{ on := 12, ground := Go.Ground.data }, { on := 11, ground := Go.Ground.data }, { on := 11, ground := Go.Ground.chain }, { on := 0, ground := Go.Ground.phase }, { on := 1, ground := Go.Ground.phase }, { on := 2, ground := Go.Ground.phase }, { on := 3, ground := Go.Ground.phase }, { on := 4, ground := Go.Ground.phase }, { on := 5, ground := Go.Ground.phase }, { on := 6, ground := Go.Ground.phase }, { on := 7, ground := Go.Ground.phase }, { on := 8, ground := Go.Ground.phase }, { on := 9, ground := Go.Ground.phase }, { on := 10, ground := Go.Ground.phase }, { on := 11, ground := Go.Ground.phase }], guard := none }) rfl (fun K hK => ?_) (AllReadyH.nil)
                  go_simp
                  have TF := hid (T36.out.lays (cp2 := cq) OWN.out)
                  refine hK.out _ _ trivial (fun hHeld => ?_)
                  clear hK K y2 f2
                  try simp only [Act.put, List.setIfInBounds_toArray, List.set_cons_zero, List.set_cons_succ]
                  refine wpAnyH_done (by kernel_rfl) ?_ _
                  refine NoPanic.normal ?_
                  clear hHeld
                  generalize V35.setCell ⟨nb, 2, none⟩ (.slice aq (n1 - 1) cq) = VF at TF ⊢
                  go_wp2
                  go_roundw
                  case rel => exact ⟨f9 + 1 - 1, n1 - 1, cq, aq, delL c1 0, l1 - xq, k2, rfl, rfl, hcq, TF.out, HI2.out, HF2.out, hid (by have := HL.out; have := HBD.out; omega)⟩
                  case measure => have := HBD.out; simp [intOf]; omega
          · have y2 : VD.cell? ⟨nb, 2, none⟩ = some (.slice (some ⟨g, 0, none⟩) n1 cp) := HVD.out.nx.cell 2
            go_simp
            refine hK.out _ _ trivial (fun hHeld => ?_)
            clear hK K y2
            try simp only [Act.put, List.setIfInBounds_toArray, List.set_cons_zero, List.set_cons_succ]
            refine wpAnyH_take (i := 4) (oi := { dst := some 66, op := Go.Op.slice 24 (Go.Operand.tmp 64) none (some (Go.Operand.tmp 65)) none, type := 24, pos := "l16_cost.go:81", after := #[{ on := 2, ground := Go.Ground.data }, { on := 3, ground := Go.Ground.data }], guard := none }) (v := ?_) rfl (by kernel_rfl) (by kernel_rfl) (by kernel_rfl) (fun _ _ _ h => h) (Or.inl ⟨by rfl, ?_⟩) (by assumption) ?_
            rotate_left
            · (intro w hSw; (try dsimp only at hSw); go_simp <;> try with_reducible rfl)
            try simp only [Act.put, List.setIfInBounds_toArray, List.set_cons_zero, List.set_cons_succ]
            refine wpAnyH_ready (rs := [0]) (by kernel_rfl) (by simp) ?_
            refine AllReadyH.cons (o := { dst := some 62, op := Go.Op.buildSlice 24 0 #[], type := 24, pos := "l16_cost.go:81", after := #[], guard := none }) rfl (fun K hK => ?_) (AllReadyH.nil)
            · go_simp
              have T38 := hid (HVD.out.alloc (.cells #[] 40 (0, 0)))
              have E : Hid (CB (VD.alloc (.cells #[] 40 (0, 0))) VD.heap.size #[] 40) := hid (CB.new _ _)
              have HEB : Hid (w.heap.size + 2 ≤ VD.heap.size ∧ VD.heap.size ≠ nb ∧ VD.heap.size ≠ g) := hid ⟨by have := HVD.out.lt; have := HVD.out.nx.lt; omega, by have := HVD.out.nx.lt; omega, by obtain ⟨g0, c0, e0, _, _, h0, _⟩ := HVD.out.rowA hpos; cases e0; have := h0.lt; omega⟩
              refine hK.out _ _ trivial (fun hHeld => ?_)
              clear hK K
              try simp only [Act.put, List.setIfInBounds_toArray, List.set_cons_zero, List.set_cons_succ]
              generalize (VD.alloc (.cells #[] 40 (0, 0))) = V37 at T38 E ⊢
              generalize VD.heap.size = eb at E HEB ⊢
              refine wpAnyH_ready (rs := [5]) (by kernel_rfl) (by simp) ?_
              refine AllReadyH.cons (o := { dst := some 67, op := Go.Op.call { callee := Go.Callee.builtin Go.Builtin.append, args := #[Go.Operand.tmp 62, Go.Operand.tmp 66], argTypes := #[24, 24] }, type := 24, pos := "l16_cost.go:81", after := #[{ on := 0, ground := Go.Ground.data }, { on := 4, ground := Go.Ground.data }], guard := none }) rfl (fun K hK => ?_) (AllReadyH.nil)
              · rw [if_pos (by rfl)]
                refine oper_append (Operand.tmp 62) (Operand.tmp 66) 24 rfl (w.heap.size + 2) 40 i4 (.agg #[.int .i64 0, .int .i64 0]) 2 16 Try.underlying24 hi4 hz40 hz41 hz42 rfl (by decide) (.slice (some ⟨eb, 0, none⟩) 0 0) 0 [] rfl (madeLA2 E.out HEB.out.1) ⟨g, 0, none⟩ 0 cp (rowLA2 c1 0) rfl (rowLA2_len _ _) (rowLA2_src (T38.out.ro.row.mono (Nat.le_of_lt hin))) (rowLA2_one _ _) (by unfold maxLen; omega) (by omega) (by have := T38.out.rs.lt; omega) ?_
                intro v5 V39 hown hgr hat5
                rw [Nat.zero_add, List.nil_append] at hown
                have HVB : Hid (∀ r, v5.ownBlock = some r → w.heap.size + 2 ≤ r ∧ r ≠ nb ∧ r ≠ g) := hid (fun r hr => by
          rcases hat5 with e | e
          · rw [e] at hr; simp [Value.ownBlock] at hr; subst hr; exact HEB.out
          · rw [e] at hr; simp at hr; subst hr; exact ⟨by have := T38.out.lt; have := T38.out.nx.lt; omega, by have := T38.out.nx.lt; omega, by obtain ⟨g0, c0, e0, _, _, h0, _⟩ := T38.out.rowA hpos; cases e0; have := h0.lt; omega⟩)
                have T40 := hid (T38.out.grown hgr (fun r hr => by simp [Value.ownBlock] at hr; subst hr; exact ⟨HEB.out.1, HEB.out.2.1, fun x hx => by cases hx; exact HEB.out.2.2⟩))
                have O5 := hid hown
                clear hown hgr hat5
                refine hK.out _ _ trivial (fun hHeld => ?_)
                clear hK K
                try simp only [Act.put, List.setIfInBounds_toArray, List.set_cons_zero, List.set_cons_succ]
                refine wpAnyH_ready (rs := [11]) (by kernel_rfl) (by simp) ?_
                refine AllReadyH.cons (o := { dst := some 73, op := Go.Op.call { callee := Go.Callee.builtin Go.Builtin.append, args := #[Go.Operand.tmp 67, Go.Operand.tmp 72], argTypes := #[24, 24] }, type := 24, pos := "l16_cost.go:81", after := #[{ on := 5, ground := Go.Ground.data }, { on := 10, ground := Go.Ground.data }, { on := 5, ground := Go.Ground.chain }], guard := none }) rfl (fun K hK => ?_) (AllReadyH.nil)
                · rw [if_pos (by rfl)]
                  refine oper_append (Operand.tmp 67) (Operand.tmp 72) 24 rfl (w.heap.size + 2) 40 i4 (.agg #[.int .i64 0, .int .i64 0]) 2 16 Try.underlying24 hi4 hz40 hz41 hz42 rfl (by decide) v5 0 (rowLA2 c1 0) rfl O5.out A (n1 - 1) (cp - 1) (rowLA2 (fun k => c1 (0 + 1 + k)) (n1 - 1)) rfl (rowLA2_len _ _) (HSRC.out _ T40.out) (rowLA2_one _ _) (by unfold maxLen; omega) (by omega) (by have := T40.out.rs.lt; omega) ?_
                  intro v9 V41 hown hgr hat9
                  rw [HEQ.out.1, HEQ.out.2] at hown
                  obtain ⟨aq, cq, rfl, hcq, ho9⟩ := ownLA2_of hown
                  have OWN := hid ho9
                  have T42 := hid (T40.out.grown hgr (fun r hr => ⟨(HVB.out r hr).1, (HVB.out r hr).2.1, fun x hx => by cases hx; exact (HVB.out r hr).2.2⟩))
                  clear hown hgr hat9 ho9
                  refine hK.out _ _ trivial (fun hHeld => ?_)
                  clear hK K
                  try simp only [Act.put, List.setIfInBounds_toArray, List.set_cons_zero, List.set_cons_succ]
                  refine wpAnyH_take (i := 12) (oi := { dst := some 74, op := Go.Op.fieldAddr 26 (Go.Operand.tmp 9) 2, type := 0, pos := "l16_cost.go:81", after := #[{ on := 0, ground := Go.Ground.phase }, { on := 1, ground := Go.Ground.phase }, { on := 2, ground := Go.Ground.phase }, { on := 3, ground := Go.Ground.phase }, { on := 4, ground := Go.Ground.phase }, { on := 5, ground := Go.Ground.phase }, { on := 6, ground := Go.Ground.phase }, { on := 7, ground := Go.Ground.phase }, { on := 8, ground := Go.Ground.phase }, { on := 9, ground := Go.Ground.phase }, { on := 10, ground := Go.Ground.phase }, { on := 11, ground := Go.Ground.phase }], guard := none }) (v := ?_) rfl (by kernel_rfl) (by kernel_rfl) (by kernel_rfl) (fun _ _ _ h => h) (Or.inl ⟨by rfl, ?_⟩) (by assumption) ?_
                  rotate_left
                  · (intro w hSw; (try dsimp only at hSw); go_simp <;> try with_reducible rfl)
                  try simp only [Act.put, List.setIfInBounds_toArray, List.set_cons_zero, List.set_cons_succ]
                  have y2 : V41.cell? ⟨nb, 2, none⟩ = some (.slice (some ⟨g, 0, none⟩) n1 cp) := T42.out.nx.cell 2
                  have f2 := T42.out.nx.fr 2
                  refine wpAnyH_ready (rs := [13]) (by kernel_rfl) (by simp) ?_
                  refine AllReadyH.cons (o := { dst := none, op := Go.Op.store 24 (Go.Operand.tmp 74) (Go.Operand.tmp 73), type := 0, pos := "l16_cost.go:81", after := #[{ on := 12, ground := Go.Ground.data }, { on := 11, ground := Go.Ground.data }, { on := 11, ground := Go.Ground.chain }, { on := 0, ground := Go.Ground.phase }, { on := 1, ground := Go.Ground.phase }, { on := 2, ground := Go.Ground.phase }, { on := 3, ground := Go.Ground.phase }, { on := 4, ground := Go.Ground.phase }, { on := 5, ground := Go.Ground.phase }, { on := 6, ground := Go.Ground.phase }, { on := 7, ground := Go.Ground.phase }, { on := 8, ground := Go.Ground.phase }, { on := 9, ground := Go.Ground.phase }, { on := 10, ground := Go.Ground.phase }, { on := 11, ground := Go.Ground.phase }], guard := none }) rfl (fun K hK => ?_) (AllReadyH.nil)
                  go_simp
                  have TF := hid (T42.out.lays (cp2 := cq) OWN.out)
                  refine hK.out _ _ trivial (fun hHeld => ?_)
                  clear hK K y2 f2
                  try simp only [Act.put, List.setIfInBounds_toArray, List.set_cons_zero, List.set_cons_succ]
                  refine wpAnyH_done (by kernel_rfl) ?_ _
                  refine NoPanic.normal ?_
                  clear hHeld
                  generalize V41.setCell ⟨nb, 2, none⟩ (.slice aq (n1 - 1) cq) = VF at TF ⊢
                  go_wp2
                  go_roundw
                  case rel => exact ⟨f9 + 1 - 1, n1 - 1, cq, aq, delL c1 0, l1 - xq, k2, rfl, rfl, hcq, TF.out, HI2.out, HF2.out, hid (by have := HL.out; have := HBD.out; omega)⟩
                  case measure => have := HBD.out; simp [intOf]; omega
      · have hts : tsS m ⟨n1, c1, l1, k1⟩ = ⟨n1, setL c1 0 ⟨xq - l1, xk - ptV ⟨xq, xk⟩ l1⟩, 0, k1 + ptV ⟨xq, xk⟩ l1⟩ := by
          obtain ⟨x1, x2, x3⟩ := HXX.out
          have e : c1 0 = ⟨xq, xk⟩ := by cases h : c1 0; rw [h] at x1 x2; simp only at x1 x2; rw [x1, x2]
          unfold tsS
          simp only [x3]
          rw [if_neg (by omega), if_neg (by omega), e]
        have hbd := half_bd (a := xk) (q := l1) (Q := xq) (by have := HBD.out; omega) (by have := HBD.out; omega) (by omega) (by omega) (by have := HBD.out; omega)
        obtain ⟨pt, hpt⟩ : ∃ x, mdV xk l1 xq 3 = x := ⟨_, rfl⟩
        have hp2 : ptV ⟨xq, xk⟩ l1 = pt := hpt
        rw [hp2] at hts
        rw [hpt] at hbd
        have HPT := hid hpt
        obtain ⟨k2, hk2⟩ : ∃ k2, k1 + pt = k2 := ⟨_, rfl⟩
        obtain ⟨nq, hnq⟩ : ∃ x, xq - l1 = x := ⟨_, rfl⟩
        obtain ⟨nk, hnk⟩ : ∃ x, xk - pt = x := ⟨_, rfl⟩
        have hwk : IntKind.i64.wrap (k1 + pt) = k2 := by rw [hk2]; exact IntWalk.i64_in _ ⟨by have := HBD.out; omega, by have := HBD.out; omega⟩
        have hwq : IntKind.i64.wrap (xq - l1) = nq := by rw [hnq]; exact IntWalk.i64_in _ ⟨by have := HBD.out; omega, by have := HBD.out; omega⟩
        have hwn : IntKind.i64.wrap (xk - pt) = nk := by rw [hnk]; exact IntWalk.i64_in _ ⟨by have := HBD.out; omega, by have := HBD.out; omega⟩
        rw [hk2, hnq, hnk] at hts
        have HI2 : Hid (TsI m p K U (mlN m) ⟨n1, setL c1 0 ⟨nq, nk⟩, 0, k2⟩) := hid (by have := HSS.out.1; rw [hts] at this; exact this)
        have HF2 : Hid (tsR m (f9 + 1 - 1) ⟨n1, setL c1 0 ⟨nq, nk⟩, 0, k2⟩ = R ∧ (0 < (0 : Int) → n1 ≤ f9 + 1 - 1)) := hid ⟨by rw [← hts]; exact HF.out.1, fun h => by omega⟩
        clear hts hk2 hnq hnk hbd hp2 hpt
        go_wp2_with (go_at_call 79; refine (specMulDiv_any _ _ _ _ _).mono ?_; rintro e w9 ⟨rfl, ew⟩; rw [HPT.out]; have T9 : Hid (SB w m p off (.slice (some a) n cap) nb cp n1 (some ⟨g, 0, none⟩) c1 w9) := hid (by rw [ew]; exact HSA0.out); have N9 : Hid (CB w9 wr.heap.size #[.int .i64 xq, .int .i64 xk] 40) := hid (by rw [ew]; exact CB.new _ _); clear ew g0 g1 b0 n2; have n2 : w9.cell? ⟨nb, 2, none⟩ = some (.slice (some ⟨g, 0, none⟩) n1 cp) := T9.out.nx.cell 2; have z0 : w9.cell? ⟨wr.heap.size, 0, none⟩ = some (.int .i64 xq) := N9.out.cell 0; have z1 : w9.cell? ⟨wr.heap.size, 1, none⟩ = some (.int .i64 xk) := N9.out.cell 1; have HE9 : Hid (w9.cell? ⟨g, 0, none⟩ = some (.int .i64 xq) ∧ w9.cell? ⟨g, 1, none⟩ = some (.int .i64 xk)) := hid (by have := T9.out.el hin; rw [HXX.out.1, HXX.out.2.1] at this; exact this); obtain ⟨g0, g1⟩ := HE9.out; have f0 : w9.frozen? ⟨g, 0, none⟩ = false := T9.out.frz hpos _; have f1 : w9.frozen? ⟨g, 1, none⟩ = false := T9.out.frz hpos _)
        have TF : Hid (SB w m p off (.slice (some a) n cap) nb cp n1 (some ⟨g, 0, none⟩) (setL c1 0 ⟨nq, nk⟩) ((w9.setCell ⟨g, 0, none⟩ (.int .i64 nq)).setCell ⟨g, 1, none⟩ (.int .i64 nk))) := hid (T9.out.put hin nq nk)
        go_roundw
        case rel => exact ⟨f9 + 1 - 1, n1, cp, some ⟨g, 0, none⟩, setL c1 0 ⟨nq, nk⟩, 0, k2, rfl, rfl, hcp, TF.out, HI2.out, HF2.out, hid (by omega)⟩
        case measure => have := HBD.out; simp [intOf]; omega
    · have hl0 : l1 = 0 := by have := HI.out.left; simp only at this; omega
      have hRR : R = ⟨n1, c1, l1, k1⟩ := by rw [← HF.out.1]; exact tsR_done m f _ (by show l1 ≤ 0; omega)
      have HRR := hid hRR
      clear hRR hl0
      have t0 : wr.cell? ⟨nb, 0, none⟩ = some (.int .i64 m) := HO.out.nx.cell 0
      have t1 : wr.cell? ⟨nb, 1, none⟩ = some (.int .i64 p) := HO.out.nx.cell 1
      have t2 : wr.cell? ⟨nb, 2, none⟩ = some (.slice ad n1 cp) := HO.out.nx.cell 2
      have t3 : wr.cell? ⟨nb, 3, none⟩ = some (.int .i64 off) := HO.out.nx.cell 3
      have x0 : wr.cell? ⟨w.heap.size + 1, 0, none⟩ = some (.int .i64 0) := HO.out.rs.cell 0
      have x1 : wr.cell? ⟨w.heap.size + 1, 1, none⟩ = some (.int .i64 0) := HO.out.rs.cell 1
      have x2 : wr.cell? ⟨w.heap.size + 1, 2, none⟩ = some (.slice none 0 0) := HO.out.rs.cell 2
      have x3 : wr.cell? ⟨w.heap.size + 1, 3, none⟩ = some (.int .i64 0) := HO.out.rs.cell 3
      have f0 := HO.out.rs.fr 0
      have f1 := HO.out.rs.fr 1
      have f2 := HO.out.rs.fr 2
      have f3 := HO.out.rs.fr 3
      go_wp2
      have ZC : CB ((((wr.setCell ⟨w.heap.size + 1, 0, none⟩ (.int .i64 m)).setCell ⟨w.heap.size + 1, 1, none⟩ (.int .i64 p)).setCell ⟨w.heap.size + 1, 2, none⟩ (.slice ad n1 cp)).setCell ⟨w.heap.size + 1, 3, none⟩ (.int .i64 off)) (w.heap.size + 1) #[.int .i64 m, .int .i64 p, .slice ad n1 cp, .int .i64 off] 26 := set4 HO.out.rs
      have ZB : Below w.heap.size w ((((wr.setCell ⟨w.heap.size + 1, 0, none⟩ (.int .i64 m)).setCell ⟨w.heap.size + 1, 1, none⟩ (.int .i64 p)).setCell ⟨w.heap.size + 1, 2, none⟩ (.slice ad n1 cp)).setCell ⟨w.heap.size + 1, 3, none⟩ (.int .i64 off)) := ((((HO.out.bl.setCell (by simp <;> omega) _).setCell (by simp <;> omega) _).setCell (by simp <;> omega) _).setCell (by simp <;> omega) _)
      have ZO : OwnLA2 ((((wr.setCell ⟨w.heap.size + 1, 0, none⟩ (.int .i64 m)).setCell ⟨w.heap.size + 1, 1, none⟩ (.int .i64 p)).setCell ⟨w.heap.size + 1, 2, none⟩ (.slice ad n1 cp)).setCell ⟨w.heap.size + 1, 3, none⟩ (.int .i64 off)) w.heap.size ad n1 c1 := by
        rcases HO.out.ro with q | ⟨g, cs, e, h0, h1, h3⟩
        · exact .inl q
        · exact .inr ⟨g, cs, e, by omega, (((h1.other _ (by omega)).other _ (by omega)).other _ (by omega)).other _ (by omega), h3⟩
      generalize ((((wr.setCell ⟨w.heap.size + 1, 0, none⟩ (.int .i64 m)).setCell ⟨w.heap.size + 1, 1, none⟩ (.int .i64 p)).setCell ⟨w.heap.size + 1, 2, none⟩ (.slice ad n1 cp)).setCell ⟨w.heap.size + 1, 3, none⟩ (.int .i64 off)) = Z at ZC ZB ZO ⊢
      have z0 : Z.cell? ⟨w.heap.size + 1, 0, none⟩ = some (.int .i64 m) := ZC.cell 0
      have z1 : Z.cell? ⟨w.heap.size + 1, 1, none⟩ = some (.int .i64 p) := ZC.cell 1
      have z2 : Z.cell? ⟨w.heap.size + 1, 2, none⟩ = some (.slice ad n1 cp) := ZC.cell 2
      have z3 : Z.cell? ⟨w.heap.size + 1, 3, none⟩ = some (.int .i64 off) := ZC.cell 3
      refine bodyPost_ret (v := .tuple #[.agg #[.int .i64 m, .int .i64 p, .slice ad n1 cp, .int .i64 off], .int .i64 k1, .bool true]) (by simp [results, Try.results34, go_sem, z0, z1, z2, z3]; try rfl) rfl ?_
      have e := HRR.out
      subst e
      first | exact ⟨_, _, rfl, ZO, ZB⟩ | exact ⟨_, ⟨_, rfl⟩, ZO, ZB⟩

end Go.Proofs.Ytdgccdlaokbnhaa
