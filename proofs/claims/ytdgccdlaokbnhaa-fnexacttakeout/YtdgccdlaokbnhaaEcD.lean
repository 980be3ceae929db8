/- What goes out: TakeOut of the program, one method. -/
import Derived.Test.YtdgccdlaokbnhaaEc
namespace Go.Proofs.Ytdgccdlaokbnhaa
open Go Go.ChangeShapes Go.WideShapes Go.ChangeAt Go.RowKit
set_option linter.unusedVariables false
set_option linter.unusedSimpArgs false

set_option maxRecDepth 20000 in
set_option maxHeartbeats 16000000 in
theorem implTakeOut_4 (m p : Int) (a : Addr) (n cap : Nat) (off q : Int) (c : Nat → LA2) (R : TS) (w : World) (hw0 : woB m p n c off = true) (hq0 : inB q 1 1000000 = true) (hle : q ≤ qS c n) (hr : LAr w (some a) n c)
    (hmo : ∀ ad k W, Calls Try.prog 78 #[.agg #[.int .i64 m, .int .i64 p, .slice ad n k, .int .i64 off]] W fun e w' => e = .returned (.iface 141 (.agg #[])) ∧ Below W.heap.size W w')
    (hna : ∀ w, (nilAhead 275 141 (.agg #[]) "loop.example/g00040/impl.nextOut").run Try.prog w = .ok (some false) w)
    (hme : ∀ w, (method 275 141 (.agg #[]) "loop.example/g00040/impl.nextOut").run Try.prog w = .ok (148, .agg #[]) w)
    (hno : ∀ ad n1 k W, 1 ≤ n1 → n1 ≤ 300 → Calls Try.prog 148 #[.agg #[], .slice ad n1 k] W fun e w' => e = .returned (.int .i64 (atO m n1 : Int)) ∧ Below W.heap.size W w')
    (hR : toS m n c q = R) :
    Calls Try.prog 35 #[.agg #[.int .i64 m, .int .i64 p, .slice (some a) n cap, .int .i64 off], .int .i64 q] w fun e w' => ∃ ad cap, e = .returned (.tuple #[.agg #[.int .i64 m, .int .i64 p, .slice ad R.n cap, .int .i64 off], .int .i64 R.cost, .bool true]) ∧ OwnLA2 w' w.heap.size ad R.n R.c ∧ Below w.heap.size w w' := by
  have HR := hid hr
  have HW0 := hid hw0
  have HQ0 := hid hq0
  have HMO := hid hmo
  have HNO := hid hno
  have hwp := woB_p hw0
  have hn := hwp.len300
  have hnI : (n : Int) ≤ 1048576 := by omega
  have HLA := hid hwp.lay
  obtain ⟨q1, q2⟩ := inB_t hq0
  have HTI : Hid (TsI m p (kS c n) (qS c n - q) (mlN m) ⟨n, c, q, 0⟩) := hid (to_start hwp q1 hle)
  have hn1 : 0 < n := HTI.out.pos (by omega) (by show 0 < q; omega)
  have hbd := hwp.bd
  obtain ⟨Q, hQ⟩ : ∃ Q, qS c n = Q := ⟨_, rfl⟩
  obtain ⟨K, hK⟩ : ∃ K, kS c n = K := ⟨_, rfl⟩
  rw [hQ] at hle hbd
  rw [hK] at hbd
  rw [hQ, hK] at HTI
  obtain ⟨U, hU⟩ : ∃ U, Q - q = U := ⟨_, rfl⟩
  rw [hU] at HTI
  have HU : Hid (0 ≤ U ∧ K ≤ 100000000000 ∧ Q ≤ 1000000) := hid (by omega)
  have HSQ := hid hQ
  have HSK := hid hK
  have HM4 : Hid (m = 4 → mlN m ≤ 1) := hid (fun e => by subst e; decide)
  have HR0 : Hid (tsR m n ⟨n, c, q, 0⟩ = R) := hid hR
  have hlt : ¬ Q < q := by omega
  have hfd : ∀ W, (Instr.field 40 (.agg #[.int .i64 Q, .int .i64 K]) 0).run Try.prog W = .ok (.int .i64 Q) W := fun W => by kernel_rfl
  clear hr hw0 hq0 hmo hno hQ hK hR hwp hU hle hbd
  go_enter Try.func35, Try.ntmps35
  go_wp2_with (first
    | (go_at_call 18; refine (implWorth_eq _ _ _ _ _ _ c _ _ hnI ((HR.out.alloc _).alloc _) HW0.out).mono ?_; rintro e w3 ⟨rfl, b3⟩; have U3 : Hid (VB w m p (.slice (some a) n cap) off w3) := hid ((VB.start w m p (.slice (some a) n cap) off).below b3); have R3 : Hid (LAr w3 (some a) n c) := hid (((HR.out.alloc _).alloc _).below b3); have t0 : w3.cell? ⟨w.heap.size, 0, none⟩ = some (.int .i64 m) := U3.out.bx.cell 0; have t1 : w3.cell? ⟨w.heap.size, 1, none⟩ = some (.int .i64 p) := U3.out.bx.cell 1; have t2 : w3.cell? ⟨w.heap.size, 2, none⟩ = some (.slice (some a) n cap) := U3.out.bx.cell 2; have t3 : w3.cell? ⟨w.heap.size, 3, none⟩ = some (.int .i64 off) := U3.out.bx.cell 3; clear b3)
    | (go_at_call 80; refine (isQtyA_eq _ _ _ HQ0.out).mono ?_; rintro e w2 ⟨rfl, ew⟩; replace ew := ew.symm; subst ew)
    | (go_at_call 63; refine (allOf_eq (some a) n cap c Q K _ hn HLA.out R3.out HSQ.out HSK.out).mono ?_; rintro e w4 ⟨rfl, b4⟩; clear t0 t1 t2 t3; have U4 := hid (U3.out.below b4); have R4 := hid (R3.out.below b4); have t0 : w4.cell? ⟨w.heap.size, 0, none⟩ = some (.int .i64 m) := U4.out.bx.cell 0; have t1 : w4.cell? ⟨w.heap.size, 1, none⟩ = some (.int .i64 p) := U4.out.bx.cell 1; have t2 : w4.cell? ⟨w.heap.size, 2, none⟩ = some (.slice (some a) n cap) := U4.out.bx.cell 2; have t3 : w4.cell? ⟨w.heap.size, 3, none⟩ = some (.int .i64 off) := U4.out.bx.cell 3; clear b4)
    | (go_at_call 78; refine (HMO.out _ _ _).mono ?_; rintro e w5 ⟨rfl, b5⟩; clear t0 t1 t2 t3; have U5 := hid (U4.out.below b5); have R5 := hid (R4.out.below b5); have t0 : w5.cell? ⟨w.heap.size, 0, none⟩ = some (.int .i64 m) := U5.out.bx.cell 0; have t1 : w5.cell? ⟨w.heap.size, 1, none⟩ = some (.int .i64 p) := U5.out.bx.cell 1; have t2 : w5.cell? ⟨w.heap.size, 2, none⟩ = some (.slice (some a) n cap) := U5.out.bx.cell 2; have t3 : w5.cell? ⟨w.heap.size, 3, none⟩ = some (.int .i64 off) := U5.out.bx.cell 3; clear b5)
    | (go_at_call 49; refine (copyLays_some a n cap c _ hnI R5.out).mono ?_; rintro e w6 ⟨v6, rfl, o6, b6⟩; clear t0 t1 t2 t3; obtain ⟨g, cp, rfl, hbg, hcp, hcm, hro⟩ := row_cells2 o6 hn1; have U6 := hid (U5.out.below b6); have HRO := hid hro; have HBG : Hid (w.heap.size + 2 ≤ g) := hid (Nat.le_trans U5.out.size hbg); have t0 : w6.cell? ⟨w.heap.size, 0, none⟩ = some (.int .i64 m) := U6.out.bx.cell 0; have t1 : w6.cell? ⟨w.heap.size, 1, none⟩ = some (.int .i64 p) := U6.out.bx.cell 1; have t2 : w6.cell? ⟨w.heap.size, 2, none⟩ = some (.slice (some a) n cap) := U6.out.bx.cell 2; have t3 : w6.cell? ⟨w.heap.size, 3, none⟩ = some (.int .i64 off) := U6.out.bx.cell 3; have f2 := U6.out.bx.fr 2; have hsz6 := U6.out.size; clear b6 o6 hro hbg))
  have HST : Hid (OB w m p off 0 0 g w6.heap.size cp n c ((w6.setCell ⟨w.heap.size, 2, none⟩ (.slice (some ⟨g, 0, none⟩) n cp)).alloc (.cells #[.int .i64 0, .int .i64 0] 40 (0, 0)))) := hid (OB.start U6.out HRO.out HBG.out)
  generalize (w6.setCell ⟨w.heap.size, 2, none⟩ (.slice (some ⟨g, 0, none⟩) n cp)).alloc (.cells #[.int .i64 0, .int .i64 0] 40 (0, 0)) = WS at HST ⊢
  generalize w6.heap.size = ob at HST ⊢
  clear t0 t1 t2 t3 f2 hsz6 U3 U4 U5 U6 R3 R4 R5 HRO HBG
  go_loopw [9, 10] (fun s9 s10 wr => ∃ (f n1 : Nat) (c1 : Nat → LA2) (l1 u1 k1 : Int), Hid (OB w m p off u1 k1 g ob cp n1 c1 wr) ∧ Hid (TsI m p K U (mlN m) ⟨n1, c1, l1, k1⟩) ∧ Hid (tsR m f ⟨n1, c1, l1, k1⟩ = R ∧ (0 < l1 → n1 ≤ f)) ∧ Hid (u1 + l1 = q ∧ 0 ≤ u1 ∧ n1 ≤ n)) (fun _ _ wr => leftN q ob wr)
  case atStart => exact ⟨n, n, c, q, 0, 0, HST.out, HTI.out, ⟨HR0.out, fun _ => Nat.le_refl _⟩, hid ⟨by omega, by omega, Nat.le_refl _⟩⟩
  case round =>
    obtain ⟨f, n1, c1, l1, u1, k1, HO, HI, HF, HL⟩ := hrel
    have hk300 : n1 ≤ 300 := Nat.le_trans HI.out.len mlN_le
    have e6 : wr.cell? ⟨ob, 0, none⟩ = some (.int .i64 u1) := HO.out.ou.cell 0
    by_cases hl : 0 < l1
    · have hpos : 1 ≤ n1 := HI.out.pos HU.out.1 hl
      have h300 := hk300
      have hat := HI.out.at_ HU.out.1 hl
      simp only at hat
      have hin := atO_lt (m := m) hpos
      obtain ⟨i, hi⟩ : ∃ i, atO m n1 = i := ⟨_, rfl⟩
      have HST := HI.out.step HU.out.1 HM4.out
      have HNO1 : Hid (∀ ad k W, Calls Try.prog 148 #[.agg #[], .slice ad n1 k] W fun e w' => e = .returned (.int .i64 (i : Int)) ∧ Below W.heap.size W w') := hid (fun ad k W => by have := HNO.out ad n1 k W hpos h300; rw [hi] at this; exact this)
      rw [hi] at hin hat
      have hin2 : (i : Int) < (n1 : Int) := by omega
      obtain ⟨xq, hxq⟩ : ∃ x, (c1 i).qty = x := ⟨_, rfl⟩
      obtain ⟨xk, hxk⟩ : ∃ x, (c1 i).cost = x := ⟨_, rfl⟩
      rw [hxq, hxk] at hat
      have HEL : Hid (∀ V, OB w m p off u1 k1 g ob cp n1 c1 V → V.cell? ⟨g, i * 2, none⟩ = some (.int .i64 xq) ∧ V.cell? ⟨g, i * 2 + 1, none⟩ = some (.int .i64 xk)) := hid (fun V h => by have := h.el hin; rw [hxq, hxk] at this; exact this)
      obtain ⟨hs1, _, hs3, _⟩ := sums_bd n1 HI.out.lay
      have hco := HI.out.cost
      have hgo := HI.out.got
      simp only at hs3 hco hgo hs1
      have hul := HL.out
      obtain ⟨hul1, hul2, hul3⟩ := hul
      have ult : u1 < q := by omega
      have hu0 : 0 ≤ u1 ∧ l1 ≤ 1000000 := by omega
      have hwq : IntKind.i64.wrap (q - u1) = l1 := by rw [show q - u1 = l1 by omega]; exact IntWalk.i64_in _ ⟨by omega, by omega⟩
      have HBD : Hid ((0 ≤ u1 ∧ u1 < q ∧ q ≤ 1000000) ∧ (0 ≤ k1 ∧ k1 ≤ 100000000000) ∧ ((1 ≤ xq ∧ xq ≤ 1000000) ∧ 0 ≤ xk ∧ xk ≤ 100000000000) ∧ 0 < l1 ∧ l1 ≤ 1000000) := hid ⟨⟨hu0.1, ult, q2⟩, ⟨hgo, by have := HU.out; omega⟩, hat, hl, hu0.2⟩
      have HXX : Hid ((c1 i).qty = xq ∧ (c1 i).cost = xk ∧ atO m n1 = i) := hid ⟨hxq, hxk, hi⟩
      have HCP : Hid (n1 ≤ cp) := hid (by omega)
      have e2 : wr.cell? ⟨w.heap.size, 2, none⟩ = some (.slice (some ⟨g, 0, none⟩) n1 cp) := HO.out.bx.cell 2
      obtain ⟨f9, rfl⟩ : ∃ f9, f = f9 + 1 := ⟨f - 1, by have := HF.out.2 hl; omega⟩
      have HV : Hid (∀ w8, Below wr.heap.size wr w8 → OB w m p off u1 k1 g ob cp n1 c1 w8.drew) := hid (fun w8 b => (HO.out.below b).drew)
      have HSS := hid HST
      have HFF := hid HF.out
      clear hs1 hs3 hco hgo hat hu0 hul1 hul2 hul3 HST hxq hxk hi
      by_cases hge : xq ≤ l1
      · have hts : tsS m ⟨n1, c1, l1, k1⟩ = ⟨n1 - 1, delL c1 i, l1 - xq, k1 + xk⟩ := by
          obtain ⟨x1, x2, x3⟩ := HXX.out
          unfold tsS
          simp only [x3]
          rw [if_neg (by omega), if_pos (by omega), x1, x2]
        obtain ⟨u2, hu2⟩ : ∃ u2, u1 + xq = u2 := ⟨_, rfl⟩
        obtain ⟨k2, hk2⟩ : ∃ k2, k1 + xk = k2 := ⟨_, rfl⟩
        obtain ⟨nq, hnq⟩ : ∃ x, xq - xq = x := ⟨_, rfl⟩
        obtain ⟨nk, hnk⟩ : ∃ x, xk - xk = x := ⟨_, rfl⟩
        have hnq0 : (nq == 0) = true := by rw [← hnq]; simp
        rw [hk2] at hts
        have HI2 : Hid (TsI m p K U (mlN m) ⟨n1 - 1, delL c1 i, l1 - xq, k2⟩) := hid (by have := HSS.out.1; rw [hts] at this; exact this)
        have HF2 : Hid (tsR m (f9 + 1 - 1) ⟨n1 - 1, delL c1 i, l1 - xq, k2⟩ = R ∧ (0 < l1 - xq → n1 - 1 ≤ f9 + 1 - 1)) := hid ⟨by rw [← hts]; exact HFF.out.1, fun _ => by have := HFF.out.2 hl; omega⟩
        have HU2 := hid hu2
        have HK2 := hid hk2
        have HNQ := hid hnq
        have HNK := hid hnk
        have HDL : Hid (∀ k, delL c1 i k = if k < i then setL c1 i ⟨nq, nk⟩ k else setL c1 i ⟨nq, nk⟩ (k + 1)) := hid (fun k => by
          unfold delL setL
          by_cases h : k < i
          · rw [if_pos h, if_pos h, if_neg (by omega)]
          · rw [if_neg h, if_neg h, if_neg (by omega)])
        have HEN : Hid (∀ V u k, OB w m p off u k g ob cp n1 (setL c1 i ⟨nq, nk⟩) V → V.cell? ⟨g, i * 2, none⟩ = some (.int .i64 nq)) := hid (fun V u k h => by have := (h.el hin).1; unfold setL at this; rw [if_pos rfl] at this; exact this)
        clear hts hu2 hk2 hnq hnk
        have HEL2 : Hid (∀ V u k, OB w m p off u k g ob cp n1 c1 V → V.cell? ⟨g, i * 2, none⟩ = some (.int .i64 xq) ∧ V.cell? ⟨g, i * 2 + 1, none⟩ = some (.int .i64 xk)) := hid (fun V u k h => by have := h.el hin; rw [HXX.out.1, HXX.out.2.1] at this; exact this)
        go_wp2_with (refine (HNO1.out _ _ _).mono ?_; rintro e w8 ⟨rfl, b8⟩; have HV1 := hid (HV.out w8 b8); clear b8)
        have HV := hid HV1.out
        clear HV1 e2 e6
        refine wp_region_noPanic ?_
        refine wp_region_held_drew (S := fun w' => (w'.cell? ⟨w.heap.size, 2, none⟩ = some (.slice (some ⟨g, 0, none⟩) n1 cp)) ∧ (w'.cell? ⟨g, i * 2, none⟩ = some (.int .i64 xq)) ∧ (w'.cell? ⟨g, i * 2 + 1, none⟩ = some (.int .i64 xk)) ∧ (w'.cell? ⟨ob, 0, none⟩ = some (.int .i64 u1))) (by kernel_rfl) (by exact ⟨HV.out.bx.cell 2, (HEL.out _ HV.out).1, (HEL.out _ HV.out).2, HV.out.ou.cell 0⟩) (fun hHeld => ?_)
        generalize w8.drew = VD at HV hHeld ⊢
        refine wpAnyH_take (i := 0) (oi := { dst := some 43, op := Go.Op.fieldAddr 26 (Go.Operand.tmp 2) 2, type := 0, pos := "l16_cost.go:167", after := #[], guard := none }) (v := ?_) rfl (by kernel_rfl) (by kernel_rfl) (by kernel_rfl) (fun _ _ _ h => h) (Or.inl ⟨by rfl, ?_⟩) (by assumption) ?_
        rotate_left
        · (intro w hSw; (try dsimp only at hSw); go_simp <;> try with_reducible rfl)
        try simp only [Act.put, List.setIfInBounds_toArray, List.set_cons_zero, List.set_cons_succ]
        refine wpAnyH_take (i := 1) (oi := { dst := some 44, op := Go.Op.load 24 (Go.Operand.tmp 43), type := 24, pos := "l16_cost.go:167", after := #[{ on := 0, ground := Go.Ground.data }], guard := none }) (v := ?_) rfl (by kernel_rfl) (by kernel_rfl) (by kernel_rfl) (fun _ _ _ h => h) (Or.inl ⟨by rfl, ?_⟩) (by assumption) ?_
        rotate_left
        · (intro w hSw; (try dsimp only at hSw); go_simp <;> try with_reducible rfl)
        try simp only [Act.put, List.setIfInBounds_toArray, List.set_cons_zero, List.set_cons_succ]
        refine wpAnyH_take (i := 2) (oi := { dst := some 45, op := Go.Op.move (Go.Operand.tmp 9), type := 3, pos := "l16_cost.go:167", after := #[], guard := none }) (v := ?_) rfl (by kernel_rfl) (by kernel_rfl) (by kernel_rfl) (fun _ _ _ h => h) (Or.inl ⟨by rfl, ?_⟩) (by assumption) ?_
        rotate_left
        · (intro w hSw; (try dsimp only at hSw); go_simp <;> try with_reducible rfl)
        try simp only [Act.put, List.setIfInBounds_toArray, List.set_cons_zero, List.set_cons_succ]
        refine wpAnyH_take (i := 3) (oi := { dst := some 46, op := Go.Op.indexAddr 24 (Go.Operand.tmp 44) (Go.Operand.tmp 45), type := 0, pos := "l16_cost.go:167", after := #[{ on := 1, ground := Go.Ground.data }, { on := 2, ground := Go.Ground.data }], guard := none }) (v := ?_) rfl (by kernel_rfl) (by kernel_rfl) (by kernel_rfl) (fun _ _ _ h => h) (Or.inl ⟨by rfl, ?_⟩) (by assumption) ?_
        rotate_left
        · (intro w hSw; (try dsimp only at hSw); go_simp <;> try with_reducible rfl)
        try simp only [Act.put, List.setIfInBounds_toArray, List.set_cons_zero, List.set_cons_succ]
        refine wpAnyH_take (i := 4) (oi := { dst := some 47, op := Go.Op.load 40 (Go.Operand.tmp 46), type := 40, pos := "l16_cost.go:167", after := #[{ on := 3, ground := Go.Ground.data }], guard := none }) (v := ?_) rfl (by kernel_rfl) (by kernel_rfl) (by kernel_rfl) (fun _ _ _ h => h) (Or.inl ⟨by rfl, ?_⟩) (by assumption) ?_
        rotate_left
        · (intro w hSw; (try dsimp only at hSw); go_simp <;> try with_reducible rfl)
        try simp only [Act.put, List.setIfInBounds_toArray, List.set_cons_zero, List.set_cons_succ]
        refine wpAnyH_take (i := 5) (oi := { dst := some 48, op := Go.Op.move (Go.Operand.tmp 1), type := 3, pos := "l16_cost.go:167", after := #[], guard := none }) (v := ?_) rfl (by kernel_rfl) (by kernel_rfl) (by kernel_rfl) (fun _ _ _ h => h) (Or.inl ⟨by rfl, ?_⟩) (by assumption) ?_
        rotate_left
        · (intro w hSw; (try dsimp only at hSw); go_simp <;> try with_reducible rfl)
        try simp only [Act.put, List.setIfInBounds_toArray, List.set_cons_zero, List.set_cons_succ]
        refine wpAnyH_take (i := 6) (oi := { dst := some 49, op := Go.Op.fieldAddr 40 (Go.Operand.tmp 8) 0, type := 0, pos := "l16_cost.go:167", after := #[], guard := none }) (v := ?_) rfl (by kernel_rfl) (by kernel_rfl) (by kernel_rfl) (fun _ _ _ h => h) (Or.inl ⟨by rfl, ?_⟩) (by assumption) ?_
        rotate_left
        · (intro w hSw; (try dsimp only at hSw); go_simp <;> try with_reducible rfl)
        try simp only [Act.put, List.setIfInBounds_toArray, List.set_cons_zero, List.set_cons_succ]
        refine wpAnyH_take (i := 7) (oi := { dst := some 50, op := Go.Op.load 3 (Go.Operand.tmp 49), type := 3, pos := "l16_cost.go:167", after := #[{ on := 6, ground := Go.Ground.data }], guard := none }) (v := ?_) rfl (by kernel_rfl) (by kernel_rfl) (by kernel_rfl) (fun _ _ _ h => h) (Or.inl ⟨by rfl, ?_⟩) (by assumption) ?_
        rotate_left
        · (intro w hSw; (try dsimp only at hSw); go_simp <;> try with_reducible rfl)
        try simp only [Act.put, List.setIfInBounds_toArray, List.set_cons_zero, List.set_cons_succ]
        refine wpAnyH_take (i := 8) (oi := { dst := some 51, op := Go.Op.binOp Go.BinOp.sub 3 (Go.Operand.tmp 48) (Go.Operand.tmp 50) 3, type := 3, pos := "l16_cost.go:167", after := #[{ on := 5, ground := Go.Ground.data }, { on := 7, ground := Go.Ground.data }], guard := none }) (v := ?_) rfl (by kernel_rfl) (by kernel_rfl) (by kernel_rfl) (fun _ _ _ h => h) (Or.inl ⟨by rfl, ?_⟩) (by assumption) ?_
        rotate_left
        · (intro w hSw; (try dsimp only at hSw); go_simp <;> try with_reducible rfl)
        try simp only [Act.put, List.setIfInBounds_toArray, List.set_cons_zero, List.set_cons_succ]
        refine wpAnyH_ready (rs := [9, 10]) (by kernel_rfl) (by simp) ?_
        refine AllReadyH.cons (o := { dst := some 52, op := Go.Op.call { callee := Go.Callee.value (Go.Operand.func 81), args := #[Go.Operand.tmp 47, Go.Operand.tmp 51], argTypes := #[40, 3] }, type := 40, pos := "l16_cost.go:167", after := #[{ on := 4, ground := Go.Ground.data }, { on := 8, ground := Go.Ground.data }], guard := none }) rfl (fun K hK => ?_) (AllReadyH.cons (o := { dst := some 10, op := Go.Op.alloc 40, type := 0, pos := "l16_cost.go:167", after := #[], guard := none }) rfl (fun K hK => ?_) (AllReadyH.nil))
        · go_simp
          refine (part_ge _ _ _ _ hge).mono ?_
          rintro e w9 ⟨rfl, b9⟩
          have T9 := hid (HV.out.below b9)
          clear b9
          first | refine hK.out _ _ (by exact ⟨T9.out.bx.cell 2, (HEL.out _ T9.out).1, (HEL.out _ T9.out).2, T9.out.ou.cell 0⟩) (fun hHeld => ?_) | (go_wp2_with fail; refine hK.out _ _ (by exact ⟨T9.out.bx.cell 2, (HEL.out _ T9.out).1, (HEL.out _ T9.out).2, T9.out.ou.cell 0⟩) (fun hHeld => ?_))
          clear hK K
          try simp only [Act.put, List.setIfInBounds_toArray, List.set_cons_zero, List.set_cons_succ]
          refine wpAnyH_ready (rs := [10]) (by kernel_rfl) (by simp) ?_
          refine AllReadyH.cons (o := { dst := some 10, op := Go.Op.alloc 40, type := 0, pos := "l16_cost.go:167", after := #[], guard := none }) rfl (fun K hK => ?_) (AllReadyH.nil)
          go_simp
          have TN := hid (T9.out.alloc (.cells #[.int .i64 0, .int .i64 0] 40 (0, 0)))
          have NN : Hid (CB (w9.alloc (.cells #[.int .i64 0, .int .i64 0] 40 (0, 0))) w9.heap.size #[.int .i64 0, .int .i64 0] 40) := hid (CB.new _ _)
          first | refine hK.out _ _ (by exact ⟨TN.out.bx.cell 2, (HEL.out _ TN.out).1, (HEL.out _ TN.out).2, TN.out.ou.cell 0⟩) (fun hHeld => ?_) | (go_wp2_with fail; refine hK.out _ _ (by exact ⟨TN.out.bx.cell 2, (HEL.out _ TN.out).1, (HEL.out _ TN.out).2, TN.out.ou.cell 0⟩) (fun hHeld => ?_))
          clear hK K
          try simp only [Act.put, List.setIfInBounds_toArray, List.set_cons_zero, List.set_cons_succ]
          have HTB0 : Hid (w.heap.size + 2 ≤ w9.heap.size ∧ g ≠ w9.heap.size ∧ ob ≠ w9.heap.size) := hid ⟨by have := T9.out.rs.lt; omega, by have := T9.out.gl; omega, by have := T9.out.ou.lt; omega⟩
          generalize (w9.alloc (.cells #[.int .i64 0, .int .i64 0] 40 (0, 0))) = VV at TN NN ⊢
          generalize w9.heap.size = tb at NN HTB0 ⊢
          have TV := hid TN.out
          have NV := hid NN.out
          have HTB := hid HTB0.out
          clear TN NN HTB0 T9
          have c0 : VV.cell? ⟨tb, 0, none⟩ = some (.int .i64 0) := NV.out.cell 0
          have c1 : VV.cell? ⟨tb, 1, none⟩ = some (.int .i64 0) := NV.out.cell 1
          have d0 := NV.out.fr 0
          have d1 := NV.out.fr 1
          refine wpAnyH_ready (rs := [11]) (by kernel_rfl) (by simp) ?_
          refine AllReadyH.cons (o := { dst := none, op := Go.Op.store 40 (Go.Operand.tmp 10) (Go.Operand.tmp 52), type := 0, pos := "l16_cost.go:167", after := #[{ on := 10, ground := Go.Ground.data }, { on := 9, ground := Go.Ground.data }, { on := 9, ground := Go.Ground.chain }, { on := 0, ground := Go.Ground.phase }, { on := 1, ground := Go.Ground.phase }, { on := 2, ground := Go.Ground.phase }, { on := 3, ground := Go.Ground.phase }, { on := 4, ground := Go.Ground.phase }, { on := 5, ground := Go.Ground.phase }, { on := 6, ground := Go.Ground.phase }, { on := 7, ground := Go.Ground.phase }, { on := 8, ground := Go.Ground.phase }, { on := 9, ground := Go.Ground.phase }, { on := 10, ground := Go.Ground.phase }], guard := none }) rfl (fun K hK => ?_) (AllReadyH.nil)
          go_simp
          have TS := hid ((TV.out.other (b := tb) (x := 0) (.int .i64 xq) HTB.out.1 HTB.out.2.1 HTB.out.2.2).other (b := tb) (x := 1) (.int .i64 xk) HTB.out.1 HTB.out.2.1 HTB.out.2.2)
          have NS : Hid (CB ((VV.setCell ⟨tb, 0, none⟩ (.int .i64 xq)).setCell ⟨tb, 1, none⟩ (.int .i64 xk)) tb #[.int .i64 xq, .int .i64 xk] 40) := hid (by simpa using (NV.out.set 0 (.int .i64 xq)).set 1 (.int .i64 xk))
          refine hK.out _ _ (by exact ⟨TS.out.bx.cell 2, (HEL.out _ TS.out).1, (HEL.out _ TS.out).2, TS.out.ou.cell 0⟩) (fun hHeld => ?_)
          clear hK K c0 c1 d0 d1
          try simp only [Act.put, List.setIfInBounds_toArray, List.set_cons_zero, List.set_cons_succ]
          refine wpAnyH_done (by kernel_rfl) ?_ _
          refine NoPanic.normal ?_
          clear hHeld TV NV
          generalize (VV.setCell ⟨tb, 0, none⟩ (.int .i64 xq)).setCell ⟨tb, 1, none⟩ (.int .i64 xk) = W2 at TS NS ⊢
          skip
          have y0 : W2.cell? ⟨ob, 0, none⟩ = some (.int .i64 u1) := TS.out.ou.cell 0
          have y1 : W2.cell? ⟨ob, 1, none⟩ = some (.int .i64 k1) := TS.out.ou.cell 1
          have z0 : W2.cell? ⟨tb, 0, none⟩ = some (.int .i64 xq) := NS.out.cell 0
          have z1 : W2.cell? ⟨tb, 1, none⟩ = some (.int .i64 xk) := NS.out.cell 1
          go_wp2_with (go_at_call 82; refine (with_eq u1 k1 xq xk u2 k2 _ (by have := HBD.out; omega) (by have := HBD.out; omega) (by have := HBD.out; omega) (by have := HBD.out; omega) HU2.out HK2.out).mono ?_; rintro e w10 ⟨rfl, b10⟩; clear y0 y1 z0 z1; have T10 := hid (TS.out.below b10); have N10 := hid (NS.out.below b10 NS.out.lt); clear b10; have y0 : w10.cell? ⟨ob, 0, none⟩ = some (.int .i64 u1) := T10.out.ou.cell 0; have y1 : w10.cell? ⟨ob, 1, none⟩ = some (.int .i64 k1) := T10.out.ou.cell 1; have f0 := T10.out.ou.fr 0; have f1 := T10.out.ou.fr 1)
          have T11 := hid (T10.out.out u2 k2)
          have N11 := hid ((N10.out.other (c := ob) (o := 0) (.int .i64 u2) (Ne.symm HTB.out.2.2)).other (c := ob) (o := 1) (.int .i64 k2) (Ne.symm HTB.out.2.2))
          clear y0 y1 f0 f1
          generalize (w10.setCell ⟨ob, 0, none⟩ (.int .i64 u2)).setCell ⟨ob, 1, none⟩ (.int .i64 k2) = W3 at T11 N11 ⊢
          clear T10 N10 TS NS
          have HV3 := hid T11.out.drew
          have HN3 : Hid (CB W3.drew tb #[.int .i64 xq, .int .i64 xk] 40) := hid N11.out
          refine wp_region_noPanic ?_
          refine wp_region_held_drew (S := fun w' => (w'.cell? ⟨w.heap.size, 2, none⟩ = some (.slice (some ⟨g, 0, none⟩) n1 cp)) ∧ (w'.cell? ⟨tb, 0, none⟩ = some (.int .i64 xq)) ∧ (w'.cell? ⟨tb, 1, none⟩ = some (.int .i64 xk))) (by kernel_rfl) (by exact ⟨HV3.out.bx.cell 2, HN3.out.cell 0, HN3.out.cell 1⟩) (fun hHeld => ?_)
          generalize W3.drew = VD3 at HV3 HN3 hHeld ⊢
          refine wpAnyH_take (i := 0) (oi := { dst := some 56, op := Go.Op.fieldAddr 26 (Go.Operand.tmp 2) 2, type := 0, pos := "l16_cost.go:169", after := #[], guard := none }) (v := ?_) rfl (by kernel_rfl) (by kernel_rfl) (by kernel_rfl) (fun _ _ _ h => h) (Or.inl ⟨by rfl, ?_⟩) (by assumption) ?_
          rotate_left
          · (intro w hSw; (try dsimp only at hSw); go_simp <;> try with_reducible rfl)
          try simp only [Act.put, List.setIfInBounds_toArray, List.set_cons_zero, List.set_cons_succ]
          refine wpAnyH_take (i := 1) (oi := { dst := some 57, op := Go.Op.load 24 (Go.Operand.tmp 56), type := 24, pos := "l16_cost.go:169", after := #[{ on := 0, ground := Go.Ground.data }], guard := none }) (v := ?_) rfl (by kernel_rfl) (by kernel_rfl) (by kernel_rfl) (fun _ _ _ h => h) (Or.inl ⟨by rfl, ?_⟩) (by assumption) ?_
          rotate_left
          · (intro w hSw; (try dsimp only at hSw); go_simp <;> try with_reducible rfl)
          try simp only [Act.put, List.setIfInBounds_toArray, List.set_cons_zero, List.set_cons_succ]
          refine wpAnyH_take (i := 2) (oi := { dst := some 58, op := Go.Op.move (Go.Operand.tmp 9), type := 3, pos := "l16_cost.go:169", after := #[], guard := none }) (v := ?_) rfl (by kernel_rfl) (by kernel_rfl) (by kernel_rfl) (fun _ _ _ h => h) (Or.inl ⟨by rfl, ?_⟩) (by assumption) ?_
          rotate_left
          · (intro w hSw; (try dsimp only at hSw); go_simp <;> try with_reducible rfl)
          try simp only [Act.put, List.setIfInBounds_toArray, List.set_cons_zero, List.set_cons_succ]
          refine wpAnyH_take (i := 3) (oi := { dst := some 59, op := Go.Op.fieldAddr 26 (Go.Operand.tmp 2) 2, type := 0, pos := "l16_cost.go:169", after := #[], guard := none }) (v := ?_) rfl (by kernel_rfl) (by kernel_rfl) (by kernel_rfl) (fun _ _ _ h => h) (Or.inl ⟨by rfl, ?_⟩) (by assumption) ?_
          rotate_left
          · (intro w hSw; (try dsimp only at hSw); go_simp <;> try with_reducible rfl)
          try simp only [Act.put, List.setIfInBounds_toArray, List.set_cons_zero, List.set_cons_succ]
          refine wpAnyH_take (i := 4) (oi := { dst := some 60, op := Go.Op.load 24 (Go.Operand.tmp 59), type := 24, pos := "l16_cost.go:169", after := #[{ on := 3, ground := Go.Ground.data }], guard := none }) (v := ?_) rfl (by kernel_rfl) (by kernel_rfl) (by kernel_rfl) (fun _ _ _ h => h) (Or.inl ⟨by rfl, ?_⟩) (by assumption) ?_
          rotate_left
          · (intro w hSw; (try dsimp only at hSw); go_simp <;> try with_reducible rfl)
          try simp only [Act.put, List.setIfInBounds_toArray, List.set_cons_zero, List.set_cons_succ]
          refine wpAnyH_take (i := 5) (oi := { dst := some 61, op := Go.Op.move (Go.Operand.tmp 9), type := 3, pos := "l16_cost.go:169", after := #[], guard := none }) (v := ?_) rfl (by kernel_rfl) (by kernel_rfl) (by kernel_rfl) (fun _ _ _ h => h) (Or.inl ⟨by rfl, ?_⟩) (by assumption) ?_
          rotate_left
          · (intro w hSw; (try dsimp only at hSw); go_simp <;> try with_reducible rfl)
          try simp only [Act.put, List.setIfInBounds_toArray, List.set_cons_zero, List.set_cons_succ]
          refine wpAnyH_take (i := 6) (oi := { dst := some 62, op := Go.Op.indexAddr 24 (Go.Operand.tmp 60) (Go.Operand.tmp 61), type := 0, pos := "l16_cost.go:169", after := #[{ on := 4, ground := Go.Ground.data }, { on := 5, ground := Go.Ground.data }], guard := none }) (v := ?_) rfl (by kernel_rfl) (by kernel_rfl) (by kernel_rfl) (fun _ _ _ h => h) (Or.inl ⟨by rfl, ?_⟩) (by assumption) ?_
          rotate_left
          · (intro w hSw; (try dsimp only at hSw); go_simp <;> try with_reducible rfl)
          try simp only [Act.put, List.setIfInBounds_toArray, List.set_cons_zero, List.set_cons_succ]
          refine wpAnyH_take (i := 8) (oi := { dst := some 64, op := Go.Op.load 40 (Go.Operand.tmp 10), type := 40, pos := "l16_cost.go:169", after := #[], guard := none }) (v := ?_) rfl (by kernel_rfl) (by kernel_rfl) (by kernel_rfl) (fun _ _ _ h => h) (Or.inl ⟨by rfl, ?_⟩) (by assumption) ?_
          rotate_left
          · (intro w hSw; (try dsimp only at hSw); go_simp <;> try with_reducible rfl)
          try simp only [Act.put, List.setIfInBounds_toArray, List.set_cons_zero, List.set_cons_succ]
          refine wpAnyH_ready (rs := [7]) (by kernel_rfl) (by simp) ?_
          refine AllReadyH.cons (o := { dst := some 63, op := Go.Op.load 40 (Go.Operand.tmp 62), type := 40, pos := "l16_cost.go:169", after := #[{ on := 6, ground := Go.Ground.data }], guard := none }) rfl (fun K hK => ?_) (AllReadyH.nil)
          obtain ⟨g0, g1⟩ := HEL2.out _ _ _ HV3.out
          go_simp
          refine hK.out _ _ (by exact ⟨HV3.out.bx.cell 2, HN3.out.cell 0, HN3.out.cell 1⟩) (fun hHeld => ?_)
          clear hK K g0 g1
          try simp only [Act.put, List.setIfInBounds_toArray, List.set_cons_zero, List.set_cons_succ]
          refine wpAnyH_ready (rs := [9]) (by kernel_rfl) (by simp) ?_
          refine AllReadyH.cons (o := { dst := some 65, op := Go.Op.call { callee := Go.Callee.value (Go.Operand.func 83), args := #[Go.Operand.tmp 63, Go.Operand.tmp 64], argTypes := #[40, 40] }, type := 40, pos := "l16_cost.go:169", after := #[{ on := 7, ground := Go.Ground.data }, { on := 8, ground := Go.Ground.data }], guard := none }) rfl (fun K hK => ?_) (AllReadyH.nil)
          go_simp
          refine (without_any xq xk xq xk nq nk _ (by have := HBD.out; omega) (by have := HBD.out; omega) (by have := HBD.out; omega) (by have := HBD.out; omega) HNQ.out HNK.out).mono ?_
          rintro e w12 ⟨rfl, b12⟩
          have T12 := hid (HV3.out.below b12)
          have N12 := hid (HN3.out.below b12 HN3.out.lt)
          clear b12
          first | refine hK.out _ _ (by exact ⟨T12.out.bx.cell 2, N12.out.cell 0, N12.out.cell 1⟩) (fun hHeld => ?_) | (go_wp2_with fail; refine hK.out _ _ (by exact ⟨T12.out.bx.cell 2, N12.out.cell 0, N12.out.cell 1⟩) (fun hHeld => ?_))
          clear hK K
          try simp only [Act.put, List.setIfInBounds_toArray, List.set_cons_zero, List.set_cons_succ]
          refine wpAnyH_take (i := 10) (oi := { dst := some 66, op := Go.Op.indexAddr 24 (Go.Operand.tmp 57) (Go.Operand.tmp 58), type := 0, pos := "l16_cost.go:169", after := #[{ on := 1, ground := Go.Ground.data }, { on := 2, ground := Go.Ground.data }, { on := 0, ground := Go.Ground.phase }, { on := 1, ground := Go.Ground.phase }, { on := 2, ground := Go.Ground.phase }, { on := 3, ground := Go.Ground.phase }, { on := 4, ground := Go.Ground.phase }, { on := 5, ground := Go.Ground.phase }, { on := 6, ground := Go.Ground.phase }, { on := 7, ground := Go.Ground.phase }, { on := 8, ground := Go.Ground.phase }, { on := 9, ground := Go.Ground.phase }], guard := none }) (v := ?_) rfl (by kernel_rfl) (by kernel_rfl) (by kernel_rfl) (fun _ _ _ h => h) (Or.inl ⟨by rfl, ?_⟩) (by assumption) ?_
          rotate_left
          · (intro w hSw; (try dsimp only at hSw); go_simp <;> try with_reducible rfl)
          try simp only [Act.put, List.setIfInBounds_toArray, List.set_cons_zero, List.set_cons_succ]
          refine wpAnyH_ready (rs := [11]) (by kernel_rfl) (by simp) ?_
          refine AllReadyH.cons (o := { dst := none, op := Go.Op.store 40 (Go.Operand.tmp 66) (Go.Operand.tmp 65), type := 0, pos := "l16_cost.go:169", after := #[{ on := 10, ground := Go.Ground.data }, { on := 9, ground := Go.Ground.data }, { on := 9, ground := Go.Ground.chain }, { on := 0, ground := Go.Ground.phase }, { on := 1, ground := Go.Ground.phase }, { on := 2, ground := Go.Ground.phase }, { on := 3, ground := Go.Ground.phase }, { on := 4, ground := Go.Ground.phase }, { on := 5, ground := Go.Ground.phase }, { on := 6, ground := Go.Ground.phase }, { on := 7, ground := Go.Ground.phase }, { on := 8, ground := Go.Ground.phase }, { on := 9, ground := Go.Ground.phase }], guard := none }) rfl (fun K hK => ?_) (AllReadyH.nil)
          obtain ⟨g0, g1⟩ := HEL2.out _ _ _ T12.out
          have f0 : w12.frozen? ⟨g, i * 2, none⟩ = false := T12.out.frz _
          have f1 : w12.frozen? ⟨g, i * 2 + 1, none⟩ = false := T12.out.frz _
          have T13 := hid (T12.out.put hin nq nk)
          have N13 := hid ((N12.out.other (c := g) (o := i * 2) (.int .i64 nq) (Ne.symm HTB.out.2.1)).other (c := g) (o := i * 2 + 1) (.int .i64 nk) (Ne.symm HTB.out.2.1))
          go_simp
          refine hK.out _ _ (by exact ⟨T13.out.bx.cell 2, N13.out.cell 0, N13.out.cell 1⟩) (fun hHeld => ?_)
          clear hK K g0 g1 f0 f1
          try simp only [Act.put, List.setIfInBounds_toArray, List.set_cons_zero, List.set_cons_succ]
          refine wpAnyH_done (by kernel_rfl) ?_ _
          refine NoPanic.normal ?_
          clear hHeld
          generalize (w12.setCell ⟨g, i * 2, none⟩ (.int .i64 nq)).setCell ⟨g, i * 2 + 1, none⟩ (.int .i64 nk) = W4 at T13 N13 ⊢
          clear T12 N12 T11 N11 HV3 HN3
          have y2 : W4.cell? ⟨w.heap.size, 2, none⟩ = some (.slice (some ⟨g, 0, none⟩) n1 cp) := T13.out.bx.cell 2
          have y4 : W4.cell? ⟨g, i * 2, none⟩ = some (.int .i64 nq) := HEN.out _ _ _ T13.out
          go_wp2_with (go_at_call 84; fail)
          obtain ⟨cs9, q1, q2, q3⟩ := T13.out.ro
          refine (delete_at g n1 cp i (setL c1 i ⟨nq, nk⟩) cs9 _ hin h300 HCP.out hcm q1 q2 q3 (delL c1 i) HDL.out).mono ?_
          rintro e w14 ⟨rfl, r14, k14, b14⟩
          clear y2 y4
          have y2 : w14.cell? ⟨w.heap.size, 2, none⟩ = some (.slice (some ⟨g, 0, none⟩) n1 cp) := (World.cell?_of_block (w := W4) (k14 w.heap.size (by have := T13.out.lt; omega))).trans (T13.out.bx.cell 2)
          have f2 : w14.frozen? ⟨w.heap.size, 2, none⟩ = false := (T13.out.bx.keep (k14 w.heap.size (by have := T13.out.lt; omega))).fr 2
          have T14 := hid (T13.out.del r14 k14 b14)
          clear r14 k14 b14 q1 q2 q3
          go_wp2
          go_roundw
          case rel => exact ⟨f9 + 1 - 1, n1 - 1, delL c1 i, l1 - xq, u2, k2, T14.out, HI2.out, HF2.out, hid (by have := HL.out; have := HU2.out; have := HBD.out; omega)⟩
          case measure =>
            have e1 := leftN_is (q := q) (T14.out.ou.cell 0)
            have e2 := leftN_is (q := q) (HO.out.ou.cell 0)
            rw [e1, e2]; have := HU2.out; have := HBD.out; omega
        · go_simp
          have TN := hid (HV.out.alloc (.cells #[.int .i64 0, .int .i64 0] 40 (0, 0)))
          have NN : Hid (CB (VD.alloc (.cells #[.int .i64 0, .int .i64 0] 40 (0, 0))) VD.heap.size #[.int .i64 0, .int .i64 0] 40) := hid (CB.new _ _)
          first | refine hK.out _ _ (by exact ⟨TN.out.bx.cell 2, (HEL.out _ TN.out).1, (HEL.out _ TN.out).2, TN.out.ou.cell 0⟩) (fun hHeld => ?_) | (go_wp2_with fail; refine hK.out _ _ (by exact ⟨TN.out.bx.cell 2, (HEL.out _ TN.out).1, (HEL.out _ TN.out).2, TN.out.ou.cell 0⟩) (fun hHeld => ?_))
          clear hK K
          try simp only [Act.put, List.setIfInBounds_toArray, List.set_cons_zero, List.set_cons_succ]
          have HTB0 : Hid (w.heap.size + 2 ≤ VD.heap.size ∧ g ≠ VD.heap.size ∧ ob ≠ VD.heap.size) := hid ⟨by have := HV.out.rs.lt; omega, by have := HV.out.gl; omega, by have := HV.out.ou.lt; omega⟩
          refine wpAnyH_ready (rs := [9]) (by kernel_rfl) (by simp) ?_
          refine AllReadyH.cons (o := { dst := some 52, op := Go.Op.call { callee := Go.Callee.value (Go.Operand.func 81), args := #[Go.Operand.tmp 47, Go.Operand.tmp 51], argTypes := #[40, 3] }, type := 40, pos := "l16_cost.go:167", after := #[{ on := 4, ground := Go.Ground.data }, { on := 8, ground := Go.Ground.data }], guard := none }) rfl (fun K hK => ?_) (AllReadyH.nil)
          go_simp
          refine (part_ge _ _ _ _ hge).mono ?_
          rintro e w9 ⟨rfl, b9⟩
          have T9 := hid (TN.out.below b9)
          have N9 := hid (NN.out.below b9 NN.out.lt)
          clear b9
          first | refine hK.out _ _ (by exact ⟨T9.out.bx.cell 2, (HEL.out _ T9.out).1, (HEL.out _ T9.out).2, T9.out.ou.cell 0⟩) (fun hHeld => ?_) | (go_wp2_with fail; refine hK.out _ _ (by exact ⟨T9.out.bx.cell 2, (HEL.out _ T9.out).1, (HEL.out _ T9.out).2, T9.out.ou.cell 0⟩) (fun hHeld => ?_))
          clear hK K
          try simp only [Act.put, List.setIfInBounds_toArray, List.set_cons_zero, List.set_cons_succ]
          generalize VD.heap.size = tb at N9 HTB0 ⊢
          have TV := hid T9.out
          have NV := hid N9.out
          have HTB := hid HTB0.out
          generalize hVV : w9 = VV at TV NV ⊢
          clear hVV HTB0 N9 T9
          have c0 : VV.cell? ⟨tb, 0, none⟩ = some (.int .i64 0) := NV.out.cell 0
          have c1 : VV.cell? ⟨tb, 1, none⟩ = some (.int .i64 0) := NV.out.cell 1
          have d0 := NV.out.fr 0
          have d1 := NV.out.fr 1
          refine wpAnyH_ready (rs := [11]) (by kernel_rfl) (by simp) ?_
          refine AllReadyH.cons (o := { dst := none, op := Go.Op.store 40 (Go.Operand.tmp 10) (Go.Operand.tmp 52), type := 0, pos := "l16_cost.go:167", after := #[{ on := 10, ground := Go.Ground.data }, { on := 9, ground := Go.Ground.data }, { on := 9, ground := Go.Ground.chain }, { on := 0, ground := Go.Ground.phase }, { on := 1, ground := Go.Ground.phase }, { on := 2, ground := Go.Ground.phase }, { on := 3, ground := Go.Ground.phase }, { on := 4, ground := Go.Ground.phase }, { on := 5, ground := Go.Ground.phase }, { on := 6, ground := Go.Ground.phase }, { on := 7, ground := Go.Ground.phase }, { on := 8, ground := Go.Ground.phase }, { on := 9, ground := Go.Ground.phase }, { on := 10, ground := Go.Ground.phase }], guard := none }) rfl (fun K hK => ?_) (AllReadyH.nil)
          go_simp
          have TS := hid ((TV.out.other (b := tb) (x := 0) (.int .i64 xq) HTB.out.1 HTB.out.2.1 HTB.out.2.2).other (b := tb) (x := 1) (.int .i64 xk) HTB.out.1 HTB.out.2.1 HTB.out.2.2)
          have NS : Hid (CB ((VV.setCell ⟨tb, 0, none⟩ (.int .i64 xq)).setCell ⟨tb, 1, none⟩ (.int .i64 xk)) tb #[.int .i64 xq, .int .i64 xk] 40) := hid (by simpa using (NV.out.set 0 (.int .i64 xq)).set 1 (.int .i64 xk))
          refine hK.out _ _ (by exact ⟨TS.out.bx.cell 2, (HEL.out _ TS.out).1, (HEL.out _ TS.out).2, TS.out.ou.cell 0⟩) (fun hHeld => ?_)
          clear hK K c0 c1 d0 d1
          try simp only [Act.put, List.setIfInBounds_toArray, List.set_cons_zero, List.set_cons_succ]
          refine wpAnyH_done (by kernel_rfl) ?_ _
          refine NoPanic.normal ?_
          clear hHeld TV NV
          generalize (VV.setCell ⟨tb, 0, none⟩ (.int .i64 xq)).setCell ⟨tb, 1, none⟩ (.int .i64 xk) = W2 at TS NS ⊢
          skip
          have y0 : W2.cell? ⟨ob, 0, none⟩ = some (.int .i64 u1) := TS.out.ou.cell 0
          have y1 : W2.cell? ⟨ob, 1, none⟩ = some (.int .i64 k1) := TS.out.ou.cell 1
          have z0 : W2.cell? ⟨tb, 0, none⟩ = some (.int .i64 xq) := NS.out.cell 0
          have z1 : W2.cell? ⟨tb, 1, none⟩ = some (.int .i64 xk) := NS.out.cell 1
          go_wp2_with (go_at_call 82; refine (with_eq u1 k1 xq xk u2 k2 _ (by have := HBD.out; omega) (by have := HBD.out; omega) (by have := HBD.out; omega) (by have := HBD.out; omega) HU2.out HK2.out).mono ?_; rintro e w10 ⟨rfl, b10⟩; clear y0 y1 z0 z1; have T10 := hid (TS.out.below b10); have N10 := hid (NS.out.below b10 NS.out.lt); clear b10; have y0 : w10.cell? ⟨ob, 0, none⟩ = some (.int .i64 u1) := T10.out.ou.cell 0; have y1 : w10.cell? ⟨ob, 1, none⟩ = some (.int .i64 k1) := T10.out.ou.cell 1; have f0 := T10.out.ou.fr 0; have f1 := T10.out.ou.fr 1)
          have T11 := hid (T10.out.out u2 k2)
          have N11 := hid ((N10.out.other (c := ob) (o := 0) (.int .i64 u2) (Ne.symm HTB.out.2.2)).other (c := ob) (o := 1) (.int .i64 k2) (Ne.symm HTB.out.2.2))
          clear y0 y1 f0 f1
          generalize (w10.setCell ⟨ob, 0, none⟩ (.int .i64 u2)).setCell ⟨ob, 1, none⟩ (.int .i64 k2) = W3 at T11 N11 ⊢
          clear T10 N10 TS NS
          have HV3 := hid T11.out.drew
          have HN3 : Hid (CB W3.drew tb #[.int .i64 xq, .int .i64 xk] 40) := hid N11.out
          refine wp_region_noPanic ?_
          refine wp_region_held_drew (S := fun w' => (w'.cell? ⟨w.heap.size, 2, none⟩ = some (.slice (some ⟨g, 0, none⟩) n1 cp)) ∧ (w'.cell? ⟨tb, 0, none⟩ = some (.int .i64 xq)) ∧ (w'.cell? ⟨tb, 1, none⟩ = some (.int .i64 xk))) (by kernel_rfl) (by exact ⟨HV3.out.bx.cell 2, HN3.out.cell 0, HN3.out.cell 1⟩) (fun hHeld => ?_)
          generalize W3.drew = VD3 at HV3 HN3 hHeld ⊢
          refine wpAnyH_take (i := 0) (oi := { dst := some 56, op := Go.Op.fieldAddr 26 (Go.Operand.tmp 2) 2, type := 0, pos := "l16_cost.go:169", after := #[], guard := none }) (v := ?_) rfl (by kernel_rfl) (by kernel_rfl) (by kernel_rfl) (fun _ _ _ h => h) (Or.inl ⟨by rfl, ?_⟩) (by assumption) ?_
          rotate_left
          · (intro w hSw; (try dsimp only at hSw); go_simp <;> try with_reducible rfl)
          try simp only [Act.put, List.setIfInBounds_toArray, List.set_cons_zero, List.set_cons_succ]
          refine wpAnyH_take (i := 1) (oi := { dst := some 57, op := Go.Op.load 24 (Go.Operand.tmp 56), type := 24, pos := "l16_cost.go:169", after := #[{ on := 0, ground := Go.Ground.data }], guard := none }) (v := ?_) rfl (by kernel_rfl) (by kernel_rfl) (by kernel_rfl) (fun _ _ _ h => h) (Or.inl ⟨by rfl, ?_⟩) (by assumption) ?_
          rotate_left
          · (intro w hSw; (try dsimp only at hSw); go_simp <;> try with_reducible rfl)
          try simp only [Act.put, List.setIfInBounds_toArray, List.set_cons_zero, List.set_cons_succ]
          refine wpAnyH_take (i := 2) (oi := { dst := some 58, op := Go.Op.move (Go.Operand.tmp 9), type := 3, pos := "l16_cost.go:169", after := #[], guard := none }) (v := ?_) rfl (by kernel_rfl) (by kernel_rfl) (by kernel_rfl) (fun _ _ _ h => h) (Or.inl ⟨by rfl, ?_⟩) (by assumption) ?_
          rotate_left
          · (intro w hSw; (try dsimp only at hSw); go_simp <;> try with_reducible rfl)
          try simp only [Act.put, List.setIfInBounds_toArray, List.set_cons_zero, List.set_cons_succ]
          refine wpAnyH_take (i := 3) (oi := { dst := some 59, op := Go.Op.fieldAddr 26 (Go.Operand.tmp 2) 2, type := 0, pos := "l16_cost.go:169", after := #[], guard := none }) (v := ?_) rfl (by kernel_rfl) (by kernel_rfl) (by kernel_rfl) (fun _ _ _ h => h) (Or.inl ⟨by rfl, ?_⟩) (by assumption) ?_
          rotate_left
          · (intro w hSw; (try dsimp only at hSw); go_simp <;> try with_reducible rfl)
          try simp only [Act.put, List.setIfInBounds_toArray, List.set_cons_zero, List.set_cons_succ]
          refine wpAnyH_take (i := 4) (oi := { dst := some 60, op := Go.Op.load 24 (Go.Operand.tmp 59), type := 24, pos := "l16_cost.go:169", after := #[{ on := 3, ground := Go.Ground.data }], guard := none }) (v := ?_) rfl (by kernel_rfl) (by kernel_rfl) (by kernel_rfl) (fun _ _ _ h => h) (Or.inl ⟨by rfl, ?_⟩) (by assumption) ?_
          rotate_left
          · (intro w hSw; (try dsimp only at hSw); go_simp <;> try with_reducible rfl)
          try simp only [Act.put, List.setIfInBounds_toArray, List.set_cons_zero, List.set_cons_succ]
          refine wpAnyH_take (i := 5) (oi := { dst := some 61, op := Go.Op.move (Go.Operand.tmp 9), type := 3, pos := "l16_cost.go:169", after := #[], guard := none }) (v := ?_) rfl (by kernel_rfl) (by kernel_rfl) (by kernel_rfl) (fun _ _ _ h => h) (Or.inl ⟨by rfl, ?_⟩) (by assumption) ?_
          rotate_left
          · (intro w hSw; (try dsimp only at hSw); go_simp <;> try with_reducible rfl)
          try simp only [Act.put, List.setIfInBounds_toArray, List.set_cons_zero, List.set_cons_succ]
          refine wpAnyH_take (i := 6) (oi := { dst := some 62, op := Go.Op.indexAddr 24 (Go.Operand.tmp 60) (Go.Operand.tmp 61), type := 0, pos := "l16_cost.go:169", after := #[{ on := 4, ground := Go.Ground.data }, { on := 5, ground := Go.Ground.data }], guard := none }) (v := ?_) rfl (by kernel_rfl) (by kernel_rfl) (by kernel_rfl) (fun _ _ _ h => h) (Or.inl ⟨by rfl, ?_⟩) (by assumption) ?_
          rotate_left
          · (intro w hSw; (try dsimp only at hSw); go_simp <;> try with_reducible rfl)
          try simp only [Act.put, List.setIfInBounds_toArray, List.set_cons_zero, List.set_cons_succ]
          refine wpAnyH_take (i := 8) (oi := { dst := some 64, op := Go.Op.load 40 (Go.Operand.tmp 10), type := 40, pos := "l16_cost.go:169", after := #[], guard := none }) (v := ?_) rfl (by kernel_rfl) (by kernel_rfl) (by kernel_rfl) (fun _ _ _ h => h) (Or.inl ⟨by rfl, ?_⟩) (by assumption) ?_
          rotate_left
          · (intro w hSw; (try dsimp only at hSw); go_simp <;> try with_reducible rfl)
          try simp only [Act.put, List.setIfInBounds_toArray, List.set_cons_zero, List.set_cons_succ]
          refine wpAnyH_ready (rs := [7]) (by kernel_rfl) (by simp) ?_
          refine AllReadyH.cons (o := { dst := some 63, op := Go.Op.load 40 (Go.Operand.tmp 62), type := 40, pos := "l16_cost.go:169", after := #[{ on := 6, ground := Go.Ground.data }], guard := none }) rfl (fun K hK => ?_) (AllReadyH.nil)
          obtain ⟨g0, g1⟩ := HEL2.out _ _ _ HV3.out
          go_simp
          refine hK.out _ _ (by exact ⟨HV3.out.bx.cell 2, HN3.out.cell 0, HN3.out.cell 1⟩) (fun hHeld => ?_)
          clear hK K g0 g1
          try simp only [Act.put, List.setIfInBounds_toArray, List.set_cons_zero, List.set_cons_succ]
          refine wpAnyH_ready (rs := [9]) (by kernel_rfl) (by simp) ?_
          refine AllReadyH.cons (o := { dst := some 65, op := Go.Op.call { callee := Go.Callee.value (Go.Operand.func 83), args := #[Go.Operand.tmp 63, Go.Operand.tmp 64], argTypes := #[40, 40] }, type := 40, pos := "l16_cost.go:169", after := #[{ on := 7, ground := Go.Ground.data }, { on := 8, ground := Go.Ground.data }], guard := none }) rfl (fun K hK => ?_) (AllReadyH.nil)
          go_simp
          refine (without_any xq xk xq xk nq nk _ (by have := HBD.out; omega) (by have := HBD.out; omega) (by have := HBD.out; omega) (by have := HBD.out; omega) HNQ.out HNK.out).mono ?_
          rintro e w12 ⟨rfl, b12⟩
          have T12 := hid (HV3.out.below b12)
          have N12 := hid (HN3.out.below b12 HN3.out.lt)
          clear b12
          first | refine hK.out _ _ (by exact ⟨T12.out.bx.cell 2, N12.out.cell 0, N12.out.cell 1⟩) (fun hHeld => ?_) | (go_wp2_with fail; refine hK.out _ _ (by exact ⟨T12.out.bx.cell 2, N12.out.cell 0, N12.out.cell 1⟩) (fun hHeld => ?_))
          clear hK K
          try simp only [Act.put, List.setIfInBounds_toArray, List.set_cons_zero, List.set_cons_succ]
          refine wpAnyH_take (i := 10) (oi := { dst := some 66, op := Go.Op.indexAddr 24 (Go.Operand.tmp 57) (Go.Operand.tmp 58), type := 0, pos := "l16_cost.go:169", after := #[{ on := 1, ground := Go.Ground.data }, { on := 2, ground := Go.Ground.data }, { on := 0, ground := Go.Ground.phase }, { on := 1, ground := Go.Ground.phase }, { on := 2, ground := Go.Ground.phase }, { on := 3, ground := Go.Ground.phase }, { on := 4, ground := Go.Ground.phase }, { on := 5, ground := Go.Ground.phase }, { on := 6, ground := Go.Ground.phase }, { on := 7, ground := Go.Ground.phase }, { on := 8, ground := Go.Ground.phase }, { on := 9, ground := Go.Ground.phase }], guard := none }) (v := ?_) rfl (by kernel_rfl) (by kernel_rfl) (by kernel_rfl) (fun _ _ _ h => h) (Or.inl ⟨by rfl, ?_⟩) (by assumption) ?_
          rotate_left
          · (intro w hSw; (try dsimp only at hSw); go_simp <;> try with_reducible rfl)
          try simp only [Act.put, List.setIfInBounds_toArray, List.set_cons_zero, List.set_cons_succ]
          refine wpAnyH_ready (rs := [11]) (by kernel_rfl) (by simp) ?_
          refine AllReadyH.cons (o := { dst := none, op := Go.Op.store 40 (Go.Operand.tmp 66) (Go.Operand.tmp 65), type := 0, pos := "l16_cost.go:169", after := #[{ on := 10, ground := Go.Ground.data }, { on := 9, ground := Go.Ground.data }, { on := 9, ground := Go.Ground.chain }, { on := 0, ground := Go.Ground.phase }, { on := 1, ground := Go.Ground.phase }, { on := 2, ground := Go.Ground.phase }, { on := 3, ground := Go.Ground.phase }, { on := 4, ground := Go.Ground.phase }, { on := 5, ground := Go.Ground.phase }, { on := 6, ground := Go.Ground.phase }, { on := 7, ground := Go.Ground.phase }, { on := 8, ground := Go.Ground.phase }, { on := 9, ground := Go.Ground.phase }], guard := none }) rfl (fun K hK => ?_) (AllReadyH.nil)
          obtain ⟨g0, g1⟩ := HEL2.out _ _ _ T12.out
          have f0 : w12.frozen? ⟨g, i * 2, none⟩ = false := T12.out.frz _
          have f1 : w12.frozen? ⟨g, i * 2 + 1, none⟩ = false := T12.out.frz _
          have T13 := hid (T12.out.put hin nq nk)
          have N13 := hid ((N12.out.other (c := g) (o := i * 2) (.int .i64 nq) (Ne.symm HTB.out.2.1)).other (c := g) (o := i * 2 + 1) (.int .i64 nk) (Ne.symm HTB.out.2.1))
          go_simp
          refine hK.out _ _ (by exact ⟨T13.out.bx.cell 2, N13.out.cell 0, N13.out.cell 1⟩) (fun hHeld => ?_)
          clear hK K g0 g1 f0 f1
          try simp only [Act.put, List.setIfInBounds_toArray, List.set_cons_zero, List.set_cons_succ]
          refine wpAnyH_done (by kernel_rfl) ?_ _
          refine NoPanic.normal ?_
          clear hHeld
          generalize (w12.setCell ⟨g, i * 2, none⟩ (.int .i64 nq)).setCell ⟨g, i * 2 + 1, none⟩ (.int .i64 nk) = W4 at T13 N13 ⊢
          clear T12 N12 T11 N11 HV3 HN3
          have y2 : W4.cell? ⟨w.heap.size, 2, none⟩ = some (.slice (some ⟨g, 0, none⟩) n1 cp) := T13.out.bx.cell 2
          have y4 : W4.cell? ⟨g, i * 2, none⟩ = some (.int .i64 nq) := HEN.out _ _ _ T13.out
          go_wp2_with (go_at_call 84; fail)
          obtain ⟨cs9, q1, q2, q3⟩ := T13.out.ro
          refine (delete_at g n1 cp i (setL c1 i ⟨nq, nk⟩) cs9 _ hin h300 HCP.out hcm q1 q2 q3 (delL c1 i) HDL.out).mono ?_
          rintro e w14 ⟨rfl, r14, k14, b14⟩
          clear y2 y4
          have y2 : w14.cell? ⟨w.heap.size, 2, none⟩ = some (.slice (some ⟨g, 0, none⟩) n1 cp) := (World.cell?_of_block (w := W4) (k14 w.heap.size (by have := T13.out.lt; omega))).trans (T13.out.bx.cell 2)
          have f2 : w14.frozen? ⟨w.heap.size, 2, none⟩ = false := (T13.out.bx.keep (k14 w.heap.size (by have := T13.out.lt; omega))).fr 2
          have T14 := hid (T13.out.del r14 k14 b14)
          clear r14 k14 b14 q1 q2 q3
          go_wp2
          go_roundw
          case rel => exact ⟨f9 + 1 - 1, n1 - 1, delL c1 i, l1 - xq, u2, k2, T14.out, HI2.out, HF2.out, hid (by have := HL.out; have := HU2.out; have := HBD.out; omega)⟩
          case measure =>
            have e1 := leftN_is (q := q) (T14.out.ou.cell 0)
            have e2 := leftN_is (q := q) (HO.out.ou.cell 0)
            rw [e1, e2]; have := HU2.out; have := HBD.out; omega
      · have hts : tsS m ⟨n1, c1, l1, k1⟩ = ⟨n1, setL c1 i ⟨xq - l1, xk - ptV ⟨xq, xk⟩ l1⟩, 0, k1 + ptV ⟨xq, xk⟩ l1⟩ := by
          obtain ⟨x1, x2, x3⟩ := HXX.out
          have e : c1 i = ⟨xq, xk⟩ := by cases h : c1 i; rw [h] at x1 x2; simp only at x1 x2; rw [x1, x2]
          unfold tsS
          simp only [x3]
          rw [if_neg (by omega), if_neg (by omega), e]
        have hbd := half_bd (a := xk) (q := l1) (Q := xq) (by have := HBD.out; omega) (by have := HBD.out; omega) (by omega) (by omega) (by have := HBD.out; omega)
        obtain ⟨pt, hpt⟩ : ∃ x, mdV xk l1 xq 3 = x := ⟨_, rfl⟩
        have hp2 : ptV ⟨xq, xk⟩ l1 = pt := hpt
        rw [hp2] at hts
        rw [hpt] at hbd
        have HBD0 := hid HBD.out
        have HBD : Hid (((0 ≤ u1 ∧ u1 < q ∧ q ≤ 1000000) ∧ (0 ≤ k1 ∧ k1 ≤ 100000000000) ∧ ((1 ≤ xq ∧ xq ≤ 1000000) ∧ 0 ≤ xk ∧ xk ≤ 100000000000) ∧ 0 < l1 ∧ l1 ≤ 1000000) ∧ 0 ≤ pt ∧ pt ≤ xk) := hid ⟨HBD0.out, hbd.1, hbd.2.1⟩
        have HPT := hid hpt
        obtain ⟨u2, hu2⟩ : ∃ u2, u1 + l1 = u2 := ⟨_, rfl⟩
        obtain ⟨k2, hk2⟩ : ∃ k2, k1 + pt = k2 := ⟨_, rfl⟩
        obtain ⟨nq, hnq⟩ : ∃ x, xq - l1 = x := ⟨_, rfl⟩
        obtain ⟨nk, hnk⟩ : ∃ x, xk - pt = x := ⟨_, rfl⟩
        have hnq0 : (nq == 0) = false := by rw [← hnq]; simp; omega
        rw [hk2, hnq, hnk] at hts
        have HI2 : Hid (TsI m p K U (mlN m) ⟨n1, setL c1 i ⟨nq, nk⟩, 0, k2⟩) := hid (by have := HSS.out.1; rw [hts] at this; exact this)
        have HF2 : Hid (tsR m (f9 + 1 - 1) ⟨n1, setL c1 i ⟨nq, nk⟩, 0, k2⟩ = R ∧ (0 < (0 : Int) → n1 ≤ f9 + 1 - 1)) := hid ⟨by rw [← hts]; exact HFF.out.1, fun h => by omega⟩
        have HU2 := hid hu2
        have HK2 := hid hk2
        have HNQ := hid hnq
        have HNK := hid hnk
        have HEN : Hid (∀ V u k, OB w m p off u k g ob cp n1 (setL c1 i ⟨nq, nk⟩) V → V.cell? ⟨g, i * 2, none⟩ = some (.int .i64 nq)) := hid (fun V u k h => by have := (h.el hin).1; unfold setL at this; rw [if_pos rfl] at this; exact this)
        clear hts hu2 hk2 hnq hnk hbd hp2 hpt HBD0
        have HEL2 : Hid (∀ V u k, OB w m p off u k g ob cp n1 c1 V → V.cell? ⟨g, i * 2, none⟩ = some (.int .i64 xq) ∧ V.cell? ⟨g, i * 2 + 1, none⟩ = some (.int .i64 xk)) := hid (fun V u k h => by have := h.el hin; rw [HXX.out.1, HXX.out.2.1] at this; exact this)
        go_wp2_with (refine (HNO1.out _ _ _).mono ?_; rintro e w8 ⟨rfl, b8⟩; have HV1 := hid (HV.out w8 b8); clear b8)
        have HV := hid HV1.out
        clear HV1 e2 e6
        refine wp_region_noPanic ?_
        refine wp_region_held_drew (S := fun w' => (w'.cell? ⟨w.heap.size, 2, none⟩ = some (.slice (some ⟨g, 0, none⟩) n1 cp)) ∧ (w'.cell? ⟨g, i * 2, none⟩ = some (.int .i64 xq)) ∧ (w'.cell? ⟨g, i * 2 + 1, none⟩ = some (.int .i64 xk)) ∧ (w'.cell? ⟨ob, 0, none⟩ = some (.int .i64 u1))) (by kernel_rfl) (by exact ⟨HV.out.bx.cell 2, (HEL.out _ HV.out).1, (HEL.out _ HV.out).2, HV.out.ou.cell 0⟩) (fun hHeld => ?_)
        generalize w8.drew = VD at HV hHeld ⊢
        refine wpAnyH_take (i := 0) (oi := { dst := some 43, op := Go.Op.fieldAddr 26 (Go.Operand.tmp 2) 2, type := 0, pos := "l16_cost.go:167", after := #[], guard := none }) (v := ?_) rfl (by kernel_rfl) (by kernel_rfl) (by kernel_rfl) (fun _ _ _ h => h) (Or.inl ⟨by rfl, ?_⟩) (by assumption) ?_
        rotate_left
        · (intro w hSw; (try dsimp only at hSw); go_simp <;> try with_reducible rfl)
        try simp only [Act.put, List.setIfInBounds_toArray, List.set_cons_zero, List.set_cons_succ]
        refine wpAnyH_take (i := 1) (oi := { dst := some 44, op := Go.Op.load 24 (Go.Operand.tmp 43), type := 24, pos := "l16_cost.go:167", after := #[{ on := 0, ground := Go.Ground.data }], guard := none }) (v := ?_) rfl (by kernel_rfl) (by kernel_rfl) (by kernel_rfl) (fun _ _ _ h => h) (Or.inl ⟨by rfl, ?_⟩) (by assumption) ?_
        rotate_left
        · (intro w hSw; (try dsimp only at hSw); go_simp <;> try with_reducible rfl)
        try simp only [Act.put, List.setIfInBounds_toArray, List.set_cons_zero, List.set_cons_succ]
        refine wpAnyH_take (i := 2) (oi := { dst := some 45, op := Go.Op.move (Go.Operand.tmp 9), type := 3, pos := "l16_cost.go:167", after := #[], guard := none }) (v := ?_) rfl (by kernel_rfl) (by kernel_rfl) (by kernel_rfl) (fun _ _ _ h => h) (Or.inl ⟨by rfl, ?_⟩) (by assumption) ?_
        rotate_left
        · (intro w hSw; (try dsimp only at hSw); go_simp <;> try with_reducible rfl)
        try simp only [Act.put, List.setIfInBounds_toArray, List.set_cons_zero, List.set_cons_succ]
        refine wpAnyH_take (i := 3) (oi := { dst := some 46, op := Go.Op.indexAddr 24 (Go.Operand.tmp 44) (Go.Operand.tmp 45), type := 0, pos := "l16_cost.go:167", after := #[{ on := 1, ground := Go.Ground.data }, { on := 2, ground := Go.Ground.data }], guard := none }) (v := ?_) rfl (by kernel_rfl) (by kernel_rfl) (by kernel_rfl) (fun _ _ _ h => h) (Or.inl ⟨by rfl, ?_⟩) (by assumption) ?_
        rotate_left
        · (intro w hSw; (try dsimp only at hSw); go_simp <;> try with_reducible rfl)
        try simp only [Act.put, List.setIfInBounds_toArray, List.set_cons_zero, List.set_cons_succ]
        refine wpAnyH_take (i := 4) (oi := { dst := some 47, op := Go.Op.load 40 (Go.Operand.tmp 46), type := 40, pos := "l16_cost.go:167", after := #[{ on := 3, ground := Go.Ground.data }], guard := none }) (v := ?_) rfl (by kernel_rfl) (by kernel_rfl) (by kernel_rfl) (fun _ _ _ h => h) (Or.inl ⟨by rfl, ?_⟩) (by assumption) ?_
        rotate_left
        · (intro w hSw; (try dsimp only at hSw); go_simp <;> try with_reducible rfl)
        try simp only [Act.put, List.setIfInBounds_toArray, List.set_cons_zero, List.set_cons_succ]
        refine wpAnyH_take (i := 5) (oi := { dst := some 48, op := Go.Op.move (Go.Operand.tmp 1), type := 3, pos := "l16_cost.go:167", after := #[], guard := none }) (v := ?_) rfl (by kernel_rfl) (by kernel_rfl) (by kernel_rfl) (fun _ _ _ h => h) (Or.inl ⟨by rfl, ?_⟩) (by assumption) ?_
        rotate_left
        · (intro w hSw; (try dsimp only at hSw); go_simp <;> try with_reducible rfl)
        try simp only [Act.put, List.setIfInBounds_toArray, List.set_cons_zero, List.set_cons_succ]
        refine wpAnyH_take (i := 6) (oi := { dst := some 49, op := Go.Op.fieldAddr 40 (Go.Operand.tmp 8) 0, type := 0, pos := "l16_cost.go:167", after := #[], guard := none }) (v := ?_) rfl (by kernel_rfl) (by kernel_rfl) (by kernel_rfl) (fun _ _ _ h => h) (Or.inl ⟨by rfl, ?_⟩) (by assumption) ?_
        rotate_left
        · (intro w hSw; (try dsimp only at hSw); go_simp <;> try with_reducible rfl)
        try simp only [Act.put, List.setIfInBounds_toArray, List.set_cons_zero, List.set_cons_succ]
        refine wpAnyH_take (i := 7) (oi := { dst := some 50, op := Go.Op.load 3 (Go.Operand.tmp 49), type := 3, pos := "l16_cost.go:167", after := #[{ on := 6, ground := Go.Ground.data }], guard := none }) (v := ?_) rfl (by kernel_rfl) (by kernel_rfl) (by kernel_rfl) (fun _ _ _ h => h) (Or.inl ⟨by rfl, ?_⟩) (by assumption) ?_
        rotate_left
        · (intro w hSw; (try dsimp only at hSw); go_simp <;> try with_reducible rfl)
        try simp only [Act.put, List.setIfInBounds_toArray, List.set_cons_zero, List.set_cons_succ]
        refine wpAnyH_take (i := 8) (oi := { dst := some 51, op := Go.Op.binOp Go.BinOp.sub 3 (Go.Operand.tmp 48) (Go.Operand.tmp 50) 3, type := 3, pos := "l16_cost.go:167", after := #[{ on := 5, ground := Go.Ground.data }, { on := 7, ground := Go.Ground.data }], guard := none }) (v := ?_) rfl (by kernel_rfl) (by kernel_rfl) (by kernel_rfl) (fun _ _ _ h => h) (Or.inl ⟨by rfl, ?_⟩) (by assumption) ?_
        rotate_left
        · (intro w hSw; (try dsimp only at hSw); go_simp <;> try with_reducible rfl)
        try simp only [Act.put, List.setIfInBounds_toArray, List.set_cons_zero, List.set_cons_succ]
        refine wpAnyH_ready (rs := [9, 10]) (by kernel_rfl) (by simp) ?_
        refine AllReadyH.cons (o := { dst := some 52, op := Go.Op.call { callee := Go.Callee.value (Go.Operand.func 81), args := #[Go.Operand.tmp 47, Go.Operand.tmp 51], argTypes := #[40, 3] }, type := 40, pos := "l16_cost.go:167", after := #[{ on := 4, ground := Go.Ground.data }, { on := 8, ground := Go.Ground.data }], guard := none }) rfl (fun K hK => ?_) (AllReadyH.cons (o := { dst := some 10, op := Go.Op.alloc 40, type := 0, pos := "l16_cost.go:167", after := #[], guard := none }) rfl (fun K hK => ?_) (AllReadyH.nil))
        · go_simp
          refine (part_lt _ _ _ _ _ hge HPT.out).mono ?_
          rintro e w9 ⟨rfl, b9⟩
          have T9 := hid (HV.out.below b9)
          clear b9
          first | refine hK.out _ _ (by exact ⟨T9.out.bx.cell 2, (HEL.out _ T9.out).1, (HEL.out _ T9.out).2, T9.out.ou.cell 0⟩) (fun hHeld => ?_) | (go_wp2_with fail; refine hK.out _ _ (by exact ⟨T9.out.bx.cell 2, (HEL.out _ T9.out).1, (HEL.out _ T9.out).2, T9.out.ou.cell 0⟩) (fun hHeld => ?_))
          clear hK K
          try simp only [Act.put, List.setIfInBounds_toArray, List.set_cons_zero, List.set_cons_succ]
          refine wpAnyH_ready (rs := [10]) (by kernel_rfl) (by simp) ?_
          refine AllReadyH.cons (o := { dst := some 10, op := Go.Op.alloc 40, type := 0, pos := "l16_cost.go:167", after := #[], guard := none }) rfl (fun K hK => ?_) (AllReadyH.nil)
          go_simp
          have TN := hid (T9.out.alloc (.cells #[.int .i64 0, .int .i64 0] 40 (0, 0)))
          have NN : Hid (CB (w9.alloc (.cells #[.int .i64 0, .int .i64 0] 40 (0, 0))) w9.heap.size #[.int .i64 0, .int .i64 0] 40) := hid (CB.new _ _)
          first | refine hK.out _ _ (by exact ⟨TN.out.bx.cell 2, (HEL.out _ TN.out).1, (HEL.out _ TN.out).2, TN.out.ou.cell 0⟩) (fun hHeld => ?_) | (go_wp2_with fail; refine hK.out _ _ (by exact ⟨TN.out.bx.cell 2, (HEL.out _ TN.out).1, (HEL.out _ TN.out).2, TN.out.ou.cell 0⟩) (fun hHeld => ?_))
          clear hK K
          try simp only [Act.put, List.setIfInBounds_toArray, List.set_cons_zero, List.set_cons_succ]
          have HTB0 : Hid (w.heap.size + 2 ≤ w9.heap.size ∧ g ≠ w9.heap.size ∧ ob ≠ w9.heap.size) := hid ⟨by have := T9.out.rs.lt; omega, by have := T9.out.gl; omega, by have := T9.out.ou.lt; omega⟩
          generalize (w9.alloc (.cells #[.int .i64 0, .int .i64 0] 40 (0, 0))) = VV at TN NN ⊢
          generalize w9.heap.size = tb at NN HTB0 ⊢
          have TV := hid TN.out
          have NV := hid NN.out
          have HTB := hid HTB0.out
          clear TN NN HTB0 T9
          have c0 : VV.cell? ⟨tb, 0, none⟩ = some (.int .i64 0) := NV.out.cell 0
          have c1 : VV.cell? ⟨tb, 1, none⟩ = some (.int .i64 0) := NV.out.cell 1
          have d0 := NV.out.fr 0
          have d1 := NV.out.fr 1
          refine wpAnyH_ready (rs := [11]) (by kernel_rfl) (by simp) ?_
          refine AllReadyH.cons (o := { dst := none, op := Go.Op.store 40 (Go.Operand.tmp 10) (Go.Operand.tmp 52), type := 0, pos := "l16_cost.go:167", after := #[{ on := 10, ground := Go.Ground.data }, { on := 9, ground := Go.Ground.data }, { on := 9, ground := Go.Ground.chain }, { on := 0, ground := Go.Ground.phase }, { on := 1, ground := Go.Ground.phase }, { on := 2, ground := Go.Ground.phase }, { on := 3, ground := Go.Ground.phase }, { on := 4, ground := Go.Ground.phase }, { on := 5, ground := Go.Ground.phase }, { on := 6, ground := Go.Ground.phase }, { on := 7, ground := Go.Ground.phase }, { on := 8, ground := Go.Ground.phase }, { on := 9, ground := Go.Ground.phase }, { on := 10, ground := Go.Ground.phase }], guard := none }) rfl (fun K hK => ?_) (AllReadyH.nil)
          go_simp
          have TS := hid ((TV.out.other (b := tb) (x := 0) (.int .i64 l1) HTB.out.1 HTB.out.2.1 HTB.out.2.2).other (b := tb) (x := 1) (.int .i64 pt) HTB.out.1 HTB.out.2.1 HTB.out.2.2)
          have NS : Hid (CB ((VV.setCell ⟨tb, 0, none⟩ (.int .i64 l1)).setCell ⟨tb, 1, none⟩ (.int .i64 pt)) tb #[.int .i64 l1, .int .i64 pt] 40) := hid (by simpa using (NV.out.set 0 (.int .i64 l1)).set 1 (.int .i64 pt))
          refine hK.out _ _ (by exact ⟨TS.out.bx.cell 2, (HEL.out _ TS.out).1, (HEL.out _ TS.out).2, TS.out.ou.cell 0⟩) (fun hHeld => ?_)
          clear hK K c0 c1 d0 d1
          try simp only [Act.put, List.setIfInBounds_toArray, List.set_cons_zero, List.set_cons_succ]
          refine wpAnyH_done (by kernel_rfl) ?_ _
          refine NoPanic.normal ?_
          clear hHeld TV NV
          generalize (VV.setCell ⟨tb, 0, none⟩ (.int .i64 l1)).setCell ⟨tb, 1, none⟩ (.int .i64 pt) = W2 at TS NS ⊢
          skip
          have y0 : W2.cell? ⟨ob, 0, none⟩ = some (.int .i64 u1) := TS.out.ou.cell 0
          have y1 : W2.cell? ⟨ob, 1, none⟩ = some (.int .i64 k1) := TS.out.ou.cell 1
          have z0 : W2.cell? ⟨tb, 0, none⟩ = some (.int .i64 l1) := NS.out.cell 0
          have z1 : W2.cell? ⟨tb, 1, none⟩ = some (.int .i64 pt) := NS.out.cell 1
          go_wp2_with (go_at_call 82; refine (with_eq u1 k1 l1 pt u2 k2 _ (by have := HBD.out; omega) (by have := HBD.out; omega) (by have := HBD.out; omega) (by have := HBD.out; omega) HU2.out HK2.out).mono ?_; rintro e w10 ⟨rfl, b10⟩; clear y0 y1 z0 z1; have T10 := hid (TS.out.below b10); have N10 := hid (NS.out.below b10 NS.out.lt); clear b10; have y0 : w10.cell? ⟨ob, 0, none⟩ = some (.int .i64 u1) := T10.out.ou.cell 0; have y1 : w10.cell? ⟨ob, 1, none⟩ = some (.int .i64 k1) := T10.out.ou.cell 1; have f0 := T10.out.ou.fr 0; have f1 := T10.out.ou.fr 1)
          have T11 := hid (T10.out.out u2 k2)
          have N11 := hid ((N10.out.other (c := ob) (o := 0) (.int .i64 u2) (Ne.symm HTB.out.2.2)).other (c := ob) (o := 1) (.int .i64 k2) (Ne.symm HTB.out.2.2))
          clear y0 y1 f0 f1
          generalize (w10.setCell ⟨ob, 0, none⟩ (.int .i64 u2)).setCell ⟨ob, 1, none⟩ (.int .i64 k2) = W3 at T11 N11 ⊢
          clear T10 N10 TS NS
          have HV3 := hid T11.out.drew
          have HN3 : Hid (CB W3.drew tb #[.int .i64 l1, .int .i64 pt] 40) := hid N11.out
          refine wp_region_noPanic ?_
          refine wp_region_held_drew (S := fun w' => (w'.cell? ⟨w.heap.size, 2, none⟩ = some (.slice (some ⟨g, 0, none⟩) n1 cp)) ∧ (w'.cell? ⟨tb, 0, none⟩ = some (.int .i64 l1)) ∧ (w'.cell? ⟨tb, 1, none⟩ = some (.int .i64 pt))) (by kernel_rfl) (by exact ⟨HV3.out.bx.cell 2, HN3.out.cell 0, HN3.out.cell 1⟩) (fun hHeld => ?_)
          generalize W3.drew = VD3 at HV3 HN3 hHeld ⊢
          refine wpAnyH_take (i := 0) (oi := { dst := some 56, op := Go.Op.fieldAddr 26 (Go.Operand.tmp 2) 2, type := 0, pos := "l16_cost.go:169", after := #[], guard := none }) (v := ?_) rfl (by kernel_rfl) (by kernel_rfl) (by kernel_rfl) (fun _ _ _ h => h) (Or.inl ⟨by rfl, ?_⟩) (by assumption) ?_
          rotate_left
          · (intro w hSw; (try dsimp only at hSw); go_simp <;> try with_reducible rfl)
          try simp only [Act.put, List.setIfInBounds_toArray, List.set_cons_zero, List.set_cons_succ]
          refine wpAnyH_take (i := 1) (oi := { dst := some 57, op := Go.Op.load 24 (Go.Operand.tmp 56), type := 24, pos := "l16_cost.go:169", after := #[{ on := 0, ground := Go.Ground.data }], guard := none }) (v := ?_) rfl (by kernel_rfl) (by kernel_rfl) (by kernel_rfl) (fun _ _ _ h => h) (Or.inl ⟨by rfl, ?_⟩) (by assumption) ?_
          rotate_left
          · (intro w hSw; (try dsimp only at hSw); go_simp <;> try with_reducible rfl)
          try simp only [Act.put, List.setIfInBounds_toArray, List.set_cons_zero, List.set_cons_succ]
          refine wpAnyH_take (i := 2) (oi := { dst := some 58, op := Go.Op.move (Go.Operand.tmp 9), type := 3, pos := "l16_cost.go:169", after := #[], guard := none }) (v := ?_) rfl (by kernel_rfl) (by kernel_rfl) (by kernel_rfl) (fun _ _ _ h => h) (Or.inl ⟨by rfl, ?_⟩) (by assumption) ?_
          rotate_left
          · (intro w hSw; (try dsimp only at hSw); go_simp <;> try with_reducible rfl)
          try simp only [Act.put, List.setIfInBounds_toArray, List.set_cons_zero, List.set_cons_succ]
          refine wpAnyH_take (i := 3) (oi := { dst := some 59, op := Go.Op.fieldAddr 26 (Go.Operand.tmp 2) 2, type := 0, pos := "l16_cost.go:169", after := #[], guard := none }) (v := ?_) rfl (by kernel_rfl) (by kernel_rfl) (by kernel_rfl) (fun _ _ _ h => h) (Or.inl ⟨by rfl, ?_⟩) (by assumption) ?_
          rotate_left
          · (intro w hSw; (try dsimp only at hSw); go_simp <;> try with_reducible rfl)
          try simp only [Act.put, List.setIfInBounds_toArray, List.set_cons_zero, List.set_cons_succ]
          refine wpAnyH_take (i := 4) (oi := { dst := some 60, op := Go.Op.load 24 (Go.Operand.tmp 59), type := 24, pos := "l16_cost.go:169", after := #[{ on := 3, ground := Go.Ground.data }], guard := none }) (v := ?_) rfl (by kernel_rfl) (by kernel_rfl) (by kernel_rfl) (fun _ _ _ h => h) (Or.inl ⟨by rfl, ?_⟩) (by assumption) ?_
          rotate_left
          · (intro w hSw; (try dsimp only at hSw); go_simp <;> try with_reducible rfl)
          try simp only [Act.put, List.setIfInBounds_toArray, List.set_cons_zero, List.set_cons_succ]
          refine wpAnyH_take (i := 5) (oi := { dst := some 61, op := Go.Op.move (Go.Operand.tmp 9), type := 3, pos := "l16_cost.go:169", after := #[], guard := none }) (v := ?_) rfl (by kernel_rfl) (by kernel_rfl) (by kernel_rfl) (fun _ _ _ h => h) (Or.inl ⟨by rfl, ?_⟩) (by assumption) ?_
          rotate_left
          · (intro w hSw; (try dsimp only at hSw); go_simp <;> try with_reducible rfl)
          try simp only [Act.put, List.setIfInBounds_toArray, List.set_cons_zero, List.set_cons_succ]
          refine wpAnyH_take (i := 6) (oi := { dst := some 62, op := Go.Op.indexAddr 24 (Go.Operand.tmp 60) (Go.Operand.tmp 61), type := 0, pos := "l16_cost.go:169", after := #[{ on := 4, ground := Go.Ground.data }, { on := 5, ground := Go.Ground.data }], guard := none }) (v := ?_) rfl (by kernel_rfl) (by kernel_rfl) (by kernel_rfl) (fun _ _ _ h => h) (Or.inl ⟨by rfl, ?_⟩) (by assumption) ?_
          rotate_left
          · (intro w hSw; (try dsimp only at hSw); go_simp <;> try with_reducible rfl)
          try simp only [Act.put, List.setIfInBounds_toArray, List.set_cons_zero, List.set_cons_succ]
          refine wpAnyH_take (i := 8) (oi := { dst := some 64, op := Go.Op.load 40 (Go.Operand.tmp 10), type := 40, pos := "l16_cost.go:169", after := #[], guard := none }) (v := ?_) rfl (by kernel_rfl) (by kernel_rfl) (by kernel_rfl) (fun _ _ _ h => h) (Or.inl ⟨by rfl, ?_⟩) (by assumption) ?_
          rotate_left
          · (intro w hSw; (try dsimp only at hSw); go_simp <;> try with_reducible rfl)
          try simp only [Act.put, List.setIfInBounds_toArray, List.set_cons_zero, List.set_cons_succ]
          refine wpAnyH_ready (rs := [7]) (by kernel_rfl) (by simp) ?_
          refine AllReadyH.cons (o := { dst := some 63, op := Go.Op.load 40 (Go.Operand.tmp 62), type := 40, pos := "l16_cost.go:169", after := #[{ on := 6, ground := Go.Ground.data }], guard := none }) rfl (fun K hK => ?_) (AllReadyH.nil)
          obtain ⟨g0, g1⟩ := HEL2.out _ _ _ HV3.out
          go_simp
          refine hK.out _ _ (by exact ⟨HV3.out.bx.cell 2, HN3.out.cell 0, HN3.out.cell 1⟩) (fun hHeld => ?_)
          clear hK K g0 g1
          try simp only [Act.put, List.setIfInBounds_toArray, List.set_cons_zero, List.set_cons_succ]
          refine wpAnyH_ready (rs := [9]) (by kernel_rfl) (by simp) ?_
          refine AllReadyH.cons (o := { dst := some 65, op := Go.Op.call { callee := Go.Callee.value (Go.Operand.func 83), args := #[Go.Operand.tmp 63, Go.Operand.tmp 64], argTypes := #[40, 40] }, type := 40, pos := "l16_cost.go:169", after := #[{ on := 7, ground := Go.Ground.data }, { on := 8, ground := Go.Ground.data }], guard := none }) rfl (fun K hK => ?_) (AllReadyH.nil)
          go_simp
          refine (without_any xq xk l1 pt nq nk _ (by have := HBD.out; omega) (by have := HBD.out; omega) (by have := HBD.out; omega) (by have := HBD.out; omega) HNQ.out HNK.out).mono ?_
          rintro e w12 ⟨rfl, b12⟩
          have T12 := hid (HV3.out.below b12)
          have N12 := hid (HN3.out.below b12 HN3.out.lt)
          clear b12
          first | refine hK.out _ _ (by exact ⟨T12.out.bx.cell 2, N12.out.cell 0, N12.out.cell 1⟩) (fun hHeld => ?_) | (go_wp2_with fail; refine hK.out _ _ (by exact ⟨T12.out.bx.cell 2, N12.out.cell 0, N12.out.cell 1⟩) (fun hHeld => ?_))
          clear hK K
          try simp only [Act.put, List.setIfInBounds_toArray, List.set_cons_zero, List.set_cons_succ]
          refine wpAnyH_take (i := 10) (oi := { dst := some 66, op := Go.Op.indexAddr 24 (Go.Operand.tmp 57) (Go.Operand.tmp 58), type := 0, pos := "l16_cost.go:169", after := #[{ on := 1, ground := Go.Ground.data }, { on := 2, ground := Go.Ground.data }, { on := 0, ground := Go.Ground.phase }, { on := 1, ground := Go.Ground.phase }, { on := 2, ground := Go.Ground.phase }, { on := 3, ground := Go.Ground.phase }, { on := 4, ground := Go.Ground.phase }, { on := 5, ground := Go.Ground.phase }, { on := 6, ground := Go.Ground.phase }, { on := 7, ground := Go.Ground.phase }, { on := 8, ground := Go.Ground.phase }, { on := 9, ground := Go.Ground.phase }], guard := none }) (v := ?_) rfl (by kernel_rfl) (by kernel_rfl) (by kernel_rfl) (fun _ _ _ h => h) (Or.inl ⟨by rfl, ?_⟩) (by assumption) ?_
          rotate_left
          · (intro w hSw; (try dsimp only at hSw); go_simp <;> try with_reducible rfl)
          try simp only [Act.put, List.setIfInBounds_toArray, List.set_cons_zero, List.set_cons_succ]
          refine wpAnyH_ready (rs := [11]) (by kernel_rfl) (by simp) ?_
          refine AllReadyH.cons (o := { dst := none, op := Go.Op.store 40 (Go.Operand.tmp 66) (Go.Operand.tmp 65), type := 0, pos := "l16_cost.go:169", after := #[{ on := 10, ground := Go.Ground.data }, { on := 9, ground := Go.Ground.data }, { on := 9, ground := Go.Ground.chain }, { on := 0, ground := Go.Ground.phase }, { on := 1, ground := Go.Ground.phase }, { on := 2, ground := Go.Ground.phase }, { on := 3, ground := Go.Ground.phase }, { on := 4, ground := Go.Ground.phase }, { on := 5, ground := Go.Ground.phase }, { on := 6, ground := Go.Ground.phase }, { on := 7, ground := Go.Ground.phase }, { on := 8, ground := Go.Ground.phase }, { on := 9, ground := Go.Ground.phase }], guard := none }) rfl (fun K hK => ?_) (AllReadyH.nil)
          obtain ⟨g0, g1⟩ := HEL2.out _ _ _ T12.out
          have f0 : w12.frozen? ⟨g, i * 2, none⟩ = false := T12.out.frz _
          have f1 : w12.frozen? ⟨g, i * 2 + 1, none⟩ = false := T12.out.frz _
          have T13 := hid (T12.out.put hin nq nk)
          have N13 := hid ((N12.out.other (c := g) (o := i * 2) (.int .i64 nq) (Ne.symm HTB.out.2.1)).other (c := g) (o := i * 2 + 1) (.int .i64 nk) (Ne.symm HTB.out.2.1))
          go_simp
          refine hK.out _ _ (by exact ⟨T13.out.bx.cell 2, N13.out.cell 0, N13.out.cell 1⟩) (fun hHeld => ?_)
          clear hK K g0 g1 f0 f1
          try simp only [Act.put, List.setIfInBounds_toArray, List.set_cons_zero, List.set_cons_succ]
          refine wpAnyH_done (by kernel_rfl) ?_ _
          refine NoPanic.normal ?_
          clear hHeld
          generalize (w12.setCell ⟨g, i * 2, none⟩ (.int .i64 nq)).setCell ⟨g, i * 2 + 1, none⟩ (.int .i64 nk) = W4 at T13 N13 ⊢
          clear T12 N12 T11 N11 HV3 HN3
          have y2 : W4.cell? ⟨w.heap.size, 2, none⟩ = some (.slice (some ⟨g, 0, none⟩) n1 cp) := T13.out.bx.cell 2
          have y4 : W4.cell? ⟨g, i * 2, none⟩ = some (.int .i64 nq) := HEN.out _ _ _ T13.out
          go_wp2
          go_roundw
          case rel => exact ⟨f9 + 1 - 1, n1, setL c1 i ⟨nq, nk⟩, 0, u2, k2, T13.out, HI2.out, HF2.out, hid (by have := HL.out; have := HU2.out; have := HBD.out; omega)⟩
          case measure =>
            have e1 := leftN_is (q := q) (T13.out.ou.cell 0)
            have e2 := leftN_is (q := q) (HO.out.ou.cell 0)
            rw [e1, e2]; have := HU2.out; have := HBD.out; omega
        · go_simp
          have TN := hid (HV.out.alloc (.cells #[.int .i64 0, .int .i64 0] 40 (0, 0)))
          have NN : Hid (CB (VD.alloc (.cells #[.int .i64 0, .int .i64 0] 40 (0, 0))) VD.heap.size #[.int .i64 0, .int .i64 0] 40) := hid (CB.new _ _)
          first | refine hK.out _ _ (by exact ⟨TN.out.bx.cell 2, (HEL.out _ TN.out).1, (HEL.out _ TN.out).2, TN.out.ou.cell 0⟩) (fun hHeld => ?_) | (go_wp2_with fail; refine hK.out _ _ (by exact ⟨TN.out.bx.cell 2, (HEL.out _ TN.out).1, (HEL.out _ TN.out).2, TN.out.ou.cell 0⟩) (fun hHeld => ?_))
          clear hK K
          try simp only [Act.put, List.setIfInBounds_toArray, List.set_cons_zero, List.set_cons_succ]
          have HTB0 : Hid (w.heap.size + 2 ≤ VD.heap.size ∧ g ≠ VD.heap.size ∧ ob ≠ VD.heap.size) := hid ⟨by have := HV.out.rs.lt; omega, by have := HV.out.gl; omega, by have := HV.out.ou.lt; omega⟩
          refine wpAnyH_ready (rs := [9]) (by kernel_rfl) (by simp) ?_
          refine AllReadyH.cons (o := { dst := some 52, op := Go.Op.call { callee := Go.Callee.value (Go.Operand.func 81), args := #[Go.Operand.tmp 47, Go.Operand.tmp 51], argTypes := #[40, 3] }, type := 40, pos := "l16_cost.go:167", after := #[{ on := 4, ground := Go.Ground.data }, { on := 8, ground := Go.Ground.data }], guard := none }) rfl (fun K hK => ?_) (AllReadyH.nil)
          go_simp
          refine (part_lt _ _ _ _ _ hge HPT.out).mono ?_
          rintro e w9 ⟨rfl, b9⟩
          have T9 := hid (TN.out.below b9)
          have N9 := hid (NN.out.below b9 NN.out.lt)
          clear b9
          first | refine hK.out _ _ (by exact ⟨T9.out.bx.cell 2, (HEL.out _ T9.out).1, (HEL.out _ T9.out).2, T9.out.ou.cell 0⟩) (fun hHeld => ?_) | (go_wp2_with fail; refine hK.out _ _ (by exact ⟨T9.out.bx.cell 2, (HEL.out _ T9.out).1, (HEL.out _ T9.out).2, T9.out.ou.cell 0⟩) (fun hHeld => ?_))
          clear hK K
          try simp only [Act.put, List.setIfInBounds_toArray, List.set_cons_zero, List.set_cons_succ]
          generalize VD.heap.size = tb at N9 HTB0 ⊢
          have TV := hid T9.out
          have NV := hid N9.out
          have HTB := hid HTB0.out
          generalize hVV : w9 = VV at TV NV ⊢
          clear hVV HTB0 N9 T9
          have c0 : VV.cell? ⟨tb, 0, none⟩ = some (.int .i64 0) := NV.out.cell 0
          have c1 : VV.cell? ⟨tb, 1, none⟩ = some (.int .i64 0) := NV.out.cell 1
          have d0 := NV.out.fr 0
          have d1 := NV.out.fr 1
          refine wpAnyH_ready (rs := [11]) (by kernel_rfl) (by simp) ?_
          refine AllReadyH.cons (o := { dst := none, op := Go.Op.store 40 (Go.Operand.tmp 10) (Go.Operand.tmp 52), type := 0, pos := "l16_cost.go:167", after := #[{ on := 10, ground := Go.Ground.data }, { on := 9, ground := Go.Ground.data }, { on := 9, ground := Go.Ground.chain }, { on := 0, ground := Go.Ground.phase }, { on := 1, ground := Go.Ground.phase }, { on := 2, ground := Go.Ground.phase }, { on := 3, ground := Go.Ground.phase }, { on := 4, ground := Go.Ground.phase }, { on := 5, ground := Go.Ground.phase }, { on := 6, ground := Go.Ground.phase }, { on := 7, ground := Go.Ground.phase }, { on := 8, ground := Go.Ground.phase }, { on := 9, ground := Go.Ground.phase }, { on := 10, ground := Go.Ground.phase }], guard := none }) rfl (fun K hK => ?_) (AllReadyH.nil)
          go_simp
          have TS := hid ((TV.out.other (b := tb) (x := 0) (.int .i64 l1) HTB.out.1 HTB.out.2.1 HTB.out.2.2).other (b := tb) (x := 1) (.int .i64 pt) HTB.out.1 HTB.out.2.1 HTB.out.2.2)
          have NS : Hid (CB ((VV.setCell ⟨tb, 0, none⟩ (.int .i64 l1)).setCell ⟨tb, 1, none⟩ (.int .i64 pt)) tb #[.int .i64 l1, .int .i64 pt] 40) := hid (by simpa using (NV.out.set 0 (.int .i64 l1)).set 1 (.int .i64 pt))
          refine hK.out _ _ (by exact ⟨TS.out.bx.cell 2, (HEL.out _ TS.out).1, (HEL.out _ TS.out).2, TS.out.ou.cell 0⟩) (fun hHeld => ?_)
          clear hK K c0 c1 d0 d1
          try simp only [Act.put, List.setIfInBounds_toArray, List.set_cons_zero, List.set_cons_succ]
          refine wpAnyH_done (by kernel_rfl) ?_ _
          refine NoPanic.normal ?_
          clear hHeld TV NV
          generalize (VV.setCell ⟨tb, 0, none⟩ (.int .i64 l1)).setCell ⟨tb, 1, none⟩ (.int .i64 pt) = W2 at TS NS ⊢
          skip
          have y0 : W2.cell? ⟨ob, 0, none⟩ = some (.int .i64 u1) := TS.out.ou.cell 0
          have y1 : W2.cell? ⟨ob, 1, none⟩ = some (.int .i64 k1) := TS.out.ou.cell 1
          have z0 : W2.cell? ⟨tb, 0, none⟩ = some (.int .i64 l1) := NS.out.cell 0
          have z1 : W2.cell? ⟨tb, 1, none⟩ = some (.int .i64 pt) := NS.out.cell 1
          go_wp2_with (go_at_call 82; refine (with_eq u1 k1 l1 pt u2 k2 _ (by have := HBD.out; omega) (by have := HBD.out; omega) (by have := HBD.out; omega) (by have := HBD.out; omega) HU2.out HK2.out).mono ?_; rintro e w10 ⟨rfl, b10⟩; clear y0 y1 z0 z1; have T10 := hid (TS.out.below b10); have N10 := hid (NS.out.below b10 NS.out.lt); clear b10; have y0 : w10.cell? ⟨ob, 0, none⟩ = some (.int .i64 u1) := T10.out.ou.cell 0; have y1 : w10.cell? ⟨ob, 1, none⟩ = some (.int .i64 k1) := T10.out.ou.cell 1; have f0 := T10.out.ou.fr 0; have f1 := T10.out.ou.fr 1)
          have T11 := hid (T10.out.out u2 k2)
          have N11 := hid ((N10.out.other (c := ob) (o := 0) (.int .i64 u2) (Ne.symm HTB.out.2.2)).other (c := ob) (o := 1) (.int .i64 k2) (Ne.symm HTB.out.2.2))
          clear y0 y1 f0 f1
          generalize (w10.setCell ⟨ob, 0, none⟩ (.int .i64 u2)).setCell ⟨ob, 1, none⟩ (.int .i64 k2) = W3 at T11 N11 ⊢
          clear T10 N10 TS NS
          have HV3 := hid T11.out.drew
          have HN3 : Hid (CB W3.drew tb #[.int .i64 l1, .int .i64 pt] 40) := hid N11.out
          refine wp_region_noPanic ?_
          refine wp_region_held_drew (S := fun w' => (w'.cell? ⟨w.heap.size, 2, none⟩ = some (.slice (some ⟨g, 0, none⟩) n1 cp)) ∧ (w'.cell? ⟨tb, 0, none⟩ = some (.int .i64 l1)) ∧ (w'.cell? ⟨tb, 1, none⟩ = some (.int .i64 pt))) (by kernel_rfl) (by exact ⟨HV3.out.bx.cell 2, HN3.out.cell 0, HN3.out.cell 1⟩) (fun hHeld => ?_)
          generalize W3.drew = VD3 at HV3 HN3 hHeld ⊢
          refine wpAnyH_take (i := 0) (oi := { dst := some 56, op := Go.Op.fieldAddr 26 (Go.Operand.tmp 2) 2, type := 0, pos := "l16_cost.go:169", after := #[], guard := none }) (v := ?_) rfl (by kernel_rfl) (by kernel_rfl) (by kernel_rfl) (fun _ _ _ h => h) (Or.inl ⟨by rfl, ?_⟩) (by assumption) ?_
          rotate_left
          · (intro w hSw; (try dsimp only at hSw); go_simp <;> try with_reducible rfl)
          try simp only [Act.put, List.setIfInBounds_toArray, List.set_cons_zero, List.set_cons_succ]
          refine wpAnyH_take (i := 1) (oi := { dst := some 57, op := Go.Op.load 24 (Go.Operand.tmp 56), type := 24, pos := "l16_cost.go:169", after := #[{ on := 0, ground := Go.Ground.data }], guard := none }) (v := ?_) rfl (by kernel_rfl) (by kernel_rfl) (by kernel_rfl) (fun _ _ _ h => h) (Or.inl ⟨by rfl, ?_⟩) (by assumption) ?_
          rotate_left
          · (intro w hSw; (try dsimp only at hSw); go_simp <;> try with_reducible rfl)
          try simp only [Act.put, List.setIfInBounds_toArray, List.set_cons_zero, List.set_cons_succ]
          refine wpAnyH_take (i := 2) (oi := { dst := some 58, op := Go.Op.move (Go.Operand.tmp 9), type := 3, pos := "l16_cost.go:169", after := #[], guard := none }) (v := ?_) rfl (by kernel_rfl) (by kernel_rfl) (by kernel_rfl) (fun _ _ _ h => h) (Or.inl ⟨by rfl, ?_⟩) (by assumption) ?_
          rotate_left
          · (intro w hSw; (try dsimp only at hSw); go_simp <;> try with_reducible rfl)
          try simp only [Act.put, List.setIfInBounds_toArray, List.set_cons_zero, List.set_cons_succ]
          refine wpAnyH_take (i := 3) (oi := { dst := some 59, op := Go.Op.fieldAddr 26 (Go.Operand.tmp 2) 2, type := 0, pos := "l16_cost.go:169", after := #[], guard := none }) (v := ?_) rfl (by kernel_rfl) (by kernel_rfl) (by kernel_rfl) (fun _ _ _ h => h) (Or.inl ⟨by rfl, ?_⟩) (by assumption) ?_
          rotate_left
          · (intro w hSw; (try dsimp only at hSw); go_simp <;> try with_reducible rfl)
          try simp only [Act.put, List.setIfInBounds_toArray, List.set_cons_zero, List.set_cons_succ]
          refine wpAnyH_take (i := 4) (oi := { dst := some 60, op := Go.Op.load 24 (Go.Operand.tmp 59), type := 24, pos := "l16_cost.go:169", after := #[{ on := 3, ground := Go.Ground.data }], guard := none }) (v := ?_) rfl (by kernel_rfl) (by kernel_rfl) (by kernel_rfl) (fun _ _ _ h => h) (Or.inl ⟨by rfl, ?_⟩) (by assumption) ?_
          rotate_left
          · (intro w hSw; (try dsimp only at hSw); go_simp <;> try with_reducible rfl)
          try simp only [Act.put, List.setIfInBounds_toArray, List.set_cons_zero, List.set_cons_succ]
          refine wpAnyH_take (i := 5) (oi := { dst := some 61, op := Go.Op.move (Go.Operand.tmp 9), type := 3, pos := "l16_cost.go:169", after := #[], guard := none }) (v := ?_) rfl (by kernel_rfl) (by kernel_rfl) (by kernel_rfl) (fun _ _ _ h => h) (Or.inl ⟨by rfl, ?_⟩) (by assumption) ?_
          rotate_left
          · (intro w hSw; (try dsimp only at hSw); go_simp <;> try with_reducible rfl)
          try simp only [Act.put, List.setIfInBounds_toArray, List.set_cons_zero, List.set_cons_succ]
          refine wpAnyH_take (i := 6) (oi := { dst := some 62, op := Go.Op.indexAddr 24 (Go.Operand.tmp 60) (Go.Operand.tmp 61), type := 0, pos := "l16_cost.go:169", after := #[{ on := 4, ground := Go.Ground.data }, { on := 5, ground := Go.Ground.data }], guard := none }) (v := ?_) rfl (by kernel_rfl) (by kernel_rfl) (by kernel_rfl) (fun _ _ _ h => h) (Or.inl ⟨by rfl, ?_⟩) (by assumption) ?_
          rotate_left
          · (intro w hSw; (try dsimp only at hSw); go_simp <;> try with_reducible rfl)
          try simp only [Act.put, List.setIfInBounds_toArray, List.set_cons_zero, List.set_cons_succ]
          refine wpAnyH_take (i := 8) (oi := { dst := some 64, op := Go.Op.load 40 (Go.Operand.tmp 10), type := 40, pos := "l16_cost.go:169", after := #[], guard := none }) (v := ?_) rfl (by kernel_rfl) (by kernel_rfl) (by kernel_rfl) (fun _ _ _ h => h) (Or.inl ⟨by rfl, ?_⟩) (by assumption) ?_
          rotate_left
          · (intro w hSw; (try dsimp only at hSw); go_simp <;> try with_reducible rfl)
          try simp only [Act.put, List.setIfInBounds_toArray, List.set_cons_zero, List.set_cons_succ]
          refine wpAnyH_ready (rs := [7]) (by kernel_rfl) (by simp) ?_
          refine AllReadyH.cons (o := { dst := some 63, op := Go.Op.load 40 (Go.Operand.tmp 62), type := 40, pos := "l16_cost.go:169", after := #[{ on := 6, ground := Go.Ground.data }], guard := none }) rfl (fun K hK => ?_) (AllReadyH.nil)
          obtain ⟨g0, g1⟩ := HEL2.out _ _ _ HV3.out
          go_simp
          refine hK.out _ _ (by exact ⟨HV3.out.bx.cell 2, HN3.out.cell 0, HN3.out.cell 1⟩) (fun hHeld => ?_)
          clear hK K g0 g1
          try simp only [Act.put, List.setIfInBounds_toArray, List.set_cons_zero, List.set_cons_succ]
          refine wpAnyH_ready (rs := [9]) (by kernel_rfl) (by simp) ?_
          refine AllReadyH.cons (o := { dst := some 65, op := Go.Op.call { callee := Go.Callee.value (Go.Operand.func 83), args := #[Go.Operand.tmp 63, Go.Operand.tmp 64], argTypes := #[40, 40] }, type := 40, pos := "l16_cost.go:169", after := #[{ on := 7, ground := Go.Ground.data }, { on := 8, ground := Go.Ground.data }], guard := none }) rfl (fun K hK => ?_) (AllReadyH.nil)
          go_simp
          refine (without_any xq xk l1 pt nq nk _ (by have := HBD.out; omega) (by have := HBD.out; omega) (by have := HBD.out; omega) (by have := HBD.out; omega) HNQ.out HNK.out).mono ?_
          rintro e w12 ⟨rfl, b12⟩
          have T12 := hid (HV3.out.below b12)
          have N12 := hid (HN3.out.below b12 HN3.out.lt)
          clear b12
          first | refine hK.out _ _ (by exact ⟨T12.out.bx.cell 2, N12.out.cell 0, N12.out.cell 1⟩) (fun hHeld => ?_) | (go_wp2_with fail; refine hK.out _ _ (by exact ⟨T12.out.bx.cell 2, N12.out.cell 0, N12.out.cell 1⟩) (fun hHeld => ?_))
          clear hK K
          try simp only [Act.put, List.setIfInBounds_toArray, List.set_cons_zero, List.set_cons_succ]
          refine wpAnyH_take (i := 10) (oi := { dst := some 66, op := Go.Op.indexAddr 24 (Go.Operand.tmp 57) (Go.Operand.tmp 58), type := 0, pos := "l16_cost.go:169", after := #[{ on := 1, ground := Go.Ground.data }, { on := 2, ground := Go.Ground.data }, { on := 0, ground := Go.Ground.phase }, { on := 1, ground := Go.Ground.phase }, { on := 2, ground := Go.Ground.phase }, { on := 3, ground := Go.Ground.phase }, { on := 4, ground := Go.Ground.phase }, { on := 5, ground := Go.Ground.phase }, { on := 6, ground := Go.Ground.phase }, { on := 7, ground := Go.Ground.phase }, { on := 8, ground := Go.Ground.phase }, { on := 9, ground := Go.Ground.phase }], guard := none }) (v := ?_) rfl (by kernel_rfl) (by kernel_rfl) (by kernel_rfl) (fun _ _ _ h => h) (Or.inl ⟨by rfl, ?_⟩) (by assumption) ?_
          rotate_left
          · (intro w hSw; (try dsimp only at hSw); go_simp <;> try with_reducible rfl)
          try simp only [Act.put, List.setIfInBounds_toArray, List.set_cons_zero, List.set_cons_succ]
          refine wpAnyH_ready (rs := [11]) (by kernel_rfl) (by simp) ?_
          refine AllReadyH.cons (o := { dst := none, op := Go.Op.store 40 (Go.Operand.tmp 66) (Go.Operand.tmp 65), type := 0, pos := "l16_cost.go:169", after := #[{ on := 10, ground := Go.Ground.data }, { on := 9, ground := Go.Ground.data }, { on := 9, ground := Go.Ground.chain }, { on := 0, ground := Go.Ground.phase }, { on := 1, ground := Go.Ground.phase }, { on := 2, ground := Go.Ground.phase }, { on := 3, ground := Go.Ground.phase }, { on := 4, ground := Go.Ground.phase }, { on := 5, ground := Go.Ground.phase }, { on := 6, ground := Go.Ground.phase }, { on := 7, ground := Go.Ground.phase }, { on := 8, ground := Go.Ground.phase }, { on := 9, ground := Go.Ground.phase }], guard := none }) rfl (fun K hK => ?_) (AllReadyH.nil)
          obtain ⟨g0, g1⟩ := HEL2.out _ _ _ T12.out
          have f0 : w12.frozen? ⟨g, i * 2, none⟩ = false := T12.out.frz _
          have f1 : w12.frozen? ⟨g, i * 2 + 1, none⟩ = false := T12.out.frz _
          have T13 := hid (T12.out.put hin nq nk)
          have N13 := hid ((N12.out.other (c := g) (o := i * 2) (.int .i64 nq) (Ne.symm HTB.out.2.1)).other (c := g) (o := i * 2 + 1) (.int .i64 nk) (Ne.symm HTB.out.2.1))
          go_simp
          refine hK.out _ _ (by exact ⟨T13.out.bx.cell 2, N13.out.cell 0, N13.out.cell 1⟩) (fun hHeld => ?_)
          clear hK K g0 g1 f0 f1
          try simp only [Act.put, List.setIfInBounds_toArray, List.set_cons_zero, List.set_cons_succ]
          refine wpAnyH_done (by kernel_rfl) ?_ _
          refine NoPanic.normal ?_
          clear hHeld
          generalize (w12.setCell ⟨g, i * 2, none⟩ (.int .i64 nq)).setCell ⟨g, i * 2 + 1, none⟩ (.int .i64 nk) = W4 at T13 N13 ⊢
          clear T12 N12 T11 N11 HV3 HN3
          have y2 : W4.cell? ⟨w.heap.size, 2, none⟩ = some (.slice (some ⟨g, 0, none⟩) n1 cp) := T13.out.bx.cell 2
          have y4 : W4.cell? ⟨g, i * 2, none⟩ = some (.int .i64 nq) := HEN.out _ _ _ T13.out
          go_wp2
          go_roundw
          case rel => exact ⟨f9 + 1 - 1, n1, setL c1 i ⟨nq, nk⟩, 0, u2, k2, T13.out, HI2.out, HF2.out, hid (by have := HL.out; have := HU2.out; have := HBD.out; omega)⟩
          case measure =>
            have e1 := leftN_is (q := q) (T13.out.ou.cell 0)
            have e2 := leftN_is (q := q) (HO.out.ou.cell 0)
            rw [e1, e2]; have := HU2.out; have := HBD.out; omega
    · have hl0 : l1 = 0 := by have := HI.out.left; simp only at this; omega
      have hRR : R = ⟨n1, c1, l1, k1⟩ := by rw [← HF.out.1]; exact tsR_done m f _ (by show l1 ≤ 0; omega)
      have huq : ¬ u1 < q := by have := HL.out; omega
      have HRR := hid hRR
      clear hRR hl0
      go_wp2
      clear e6
      have HV := hid HO.out.drew
      refine wp_region_noPanic ?_
      refine wp_region_held_drew (S := fun w' => (w'.cell? ⟨w.heap.size, 0, none⟩ = some (.int .i64 m)) ∧ (w'.cell? ⟨w.heap.size, 1, none⟩ = some (.int .i64 p)) ∧ (w'.cell? ⟨w.heap.size, 2, none⟩ = some (.slice (some ⟨g, 0, none⟩) n1 cp)) ∧ (w'.cell? ⟨w.heap.size, 3, none⟩ = some (.int .i64 off)) ∧ (w'.cell? ⟨ob, 1, none⟩ = some (.int .i64 k1))) (by kernel_rfl) (by exact ⟨HV.out.bx.cell 0, HV.out.bx.cell 1, HV.out.bx.cell 2, HV.out.bx.cell 3, HV.out.ou.cell 1⟩) (fun hHeld => ?_)
      generalize wr.drew = VD at HV hHeld ⊢
      refine wpAnyH_take (i := 0) (oi := { dst := some 81, op := Go.Op.load 26 (Go.Operand.tmp 2), type := 26, pos := "l16_cost.go:174", after := #[], guard := none }) (v := ?_) rfl (by kernel_rfl) (by kernel_rfl) (by kernel_rfl) (fun _ _ _ h => h) (Or.inl ⟨by rfl, ?_⟩) (by assumption) ?_
      rotate_left
      · (intro w hSw; (try dsimp only at hSw); go_simp <;> try with_reducible rfl)
      try simp only [Act.put, List.setIfInBounds_toArray, List.set_cons_zero, List.set_cons_succ]
      refine wpAnyH_take (i := 1) (oi := { dst := some 82, op := Go.Op.fieldAddr 40 (Go.Operand.tmp 8) 1, type := 0, pos := "l16_cost.go:174", after := #[{ on := 3, ground := Go.Ground.gcOnly Go.Departure.lateStores }], guard := none }) (v := ?_) rfl (by kernel_rfl) (by kernel_rfl) (by kernel_rfl) (fun _ _ _ h => h) (Or.inl ⟨by rfl, ?_⟩) (by assumption) ?_
      rotate_left
      · (intro w hSw; (try dsimp only at hSw); go_simp <;> try with_reducible rfl)
      try simp only [Act.put, List.setIfInBounds_toArray, List.set_cons_zero, List.set_cons_succ]
      refine wpAnyH_take (i := 2) (oi := { dst := some 83, op := Go.Op.load 3 (Go.Operand.tmp 82), type := 3, pos := "l16_cost.go:174", after := #[{ on := 1, ground := Go.Ground.data }, { on := 3, ground := Go.Ground.gcOnly Go.Departure.lateStores }], guard := none }) (v := ?_) rfl (by kernel_rfl) (by kernel_rfl) (by kernel_rfl) (fun _ _ _ h => h) (Or.inl ⟨by rfl, ?_⟩) (by assumption) ?_
      rotate_left
      · (intro w hSw; (try dsimp only at hSw); go_simp <;> try with_reducible rfl)
      try simp only [Act.put, List.setIfInBounds_toArray, List.set_cons_zero, List.set_cons_succ]
      refine wpAnyH_ready (rs := [3]) (by kernel_rfl) (by simp) ?_
      refine AllReadyH.cons (o := { dst := none, op := Go.Op.store 26 (Go.Operand.tmp 4) (Go.Operand.tmp 81), type := 0, pos := "l16_cost.go:174", after := #[{ on := 0, ground := Go.Ground.data }, { on := 0, ground := Go.Ground.phase }, { on := 1, ground := Go.Ground.textOnly Go.Departure.lateStores }, { on := 2, ground := Go.Ground.textOnly Go.Departure.lateStores }], guard := none }) rfl (fun K hK => ?_) (AllReadyH.nil)
      have x0 : VD.cell? ⟨w.heap.size + 1, 0, none⟩ = some (.int .i64 0) := HV.out.rs.cell 0
      have x1 : VD.cell? ⟨w.heap.size + 1, 1, none⟩ = some (.int .i64 0) := HV.out.rs.cell 1
      have x2 : VD.cell? ⟨w.heap.size + 1, 2, none⟩ = some (.slice none 0 0) := HV.out.rs.cell 2
      have x3 : VD.cell? ⟨w.heap.size + 1, 3, none⟩ = some (.int .i64 0) := HV.out.rs.cell 3
      have f0 : VD.frozen? ⟨w.heap.size + 1, 0, none⟩ = false := HV.out.rs.fr 0
      have f1 : VD.frozen? ⟨w.heap.size + 1, 1, none⟩ = false := HV.out.rs.fr 1
      have f2 : VD.frozen? ⟨w.heap.size + 1, 2, none⟩ = false := HV.out.rs.fr 2
      have f3 : VD.frozen? ⟨w.heap.size + 1, 3, none⟩ = false := HV.out.rs.fr 3
      have HZ := hid (HV.out.fin (.int .i64 m) (.int .i64 p) (.slice (some ⟨g, 0, none⟩) n1 cp) (.int .i64 off))
      go_simp
      refine hK.out _ _ (by exact ⟨HZ.out.2.1.cell 0, HZ.out.2.1.cell 1, HZ.out.2.1.cell 2, HZ.out.2.1.cell 3, HZ.out.2.2.1.cell 1⟩) (fun hHeld => ?_)
      clear hK K x0 x1 x2 x3 f0 f1 f2 f3
      try simp only [Act.put, List.setIfInBounds_toArray, List.set_cons_zero, List.set_cons_succ]
      refine wpAnyH_take (i := 4) (oi := { dst := some 5, op := Go.Op.assign (Go.Operand.tmp 83), type := 3, pos := "l16_cost.go:174", after := #[{ on := 2, ground := Go.Ground.data }, { on := 3, ground := Go.Ground.chain }, { on := 0, ground := Go.Ground.phase }, { on := 1, ground := Go.Ground.phase }, { on := 2, ground := Go.Ground.phase }, { on := 3, ground := Go.Ground.phase }], guard := none }) (v := ?_) rfl (by kernel_rfl) (by kernel_rfl) (by kernel_rfl) (fun _ _ _ h => h) (Or.inl ⟨by rfl, ?_⟩) (by assumption) ?_
      rotate_left
      · (intro w hSw; (try dsimp only at hSw); go_simp <;> try with_reducible rfl)
      try simp only [Act.put, List.setIfInBounds_toArray, List.set_cons_zero, List.set_cons_succ]
      refine wpAnyH_take (i := 5) (oi := { dst := some 6, op := Go.Op.assign (Go.Operand.const (Go.Value.bool true)), type := 4, pos := "l16_cost.go:174", after := #[{ on := 4, ground := Go.Ground.chain }, { on := 0, ground := Go.Ground.phase }, { on := 1, ground := Go.Ground.phase }, { on := 2, ground := Go.Ground.phase }, { on := 3, ground := Go.Ground.phase }, { on := 4, ground := Go.Ground.phase }], guard := none }) (v := ?_) rfl (by kernel_rfl) (by kernel_rfl) (by kernel_rfl) (fun _ _ _ h => h) (Or.inl ⟨by rfl, ?_⟩) (by assumption) ?_
      rotate_left
      · (intro w hSw; (try dsimp only at hSw); go_simp <;> try with_reducible rfl)
      try simp only [Act.put, List.setIfInBounds_toArray, List.set_cons_zero, List.set_cons_succ]
      refine wpAnyH_done (by kernel_rfl) ?_ _
      refine NoPanic.normal ?_
      clear hHeld
      generalize ((((VD.setCell ⟨w.heap.size + 1, 0, none⟩ (.int .i64 m)).setCell ⟨w.heap.size + 1, 1, none⟩ (.int .i64 p)).setCell ⟨w.heap.size + 1, 2, none⟩ (.slice (some ⟨g, 0, none⟩) n1 cp)).setCell ⟨w.heap.size + 1, 3, none⟩ (.int .i64 off)) = Z at HZ ⊢
      obtain ⟨ZB, _, _, ZC, ZO⟩ := HZ.out
      have z0 : Z.cell? ⟨w.heap.size + 1, 0, none⟩ = some (.int .i64 m) := ZC.cell 0
      have z1 : Z.cell? ⟨w.heap.size + 1, 1, none⟩ = some (.int .i64 p) := ZC.cell 1
      have z2 : Z.cell? ⟨w.heap.size + 1, 2, none⟩ = some (.slice (some ⟨g, 0, none⟩) n1 cp) := ZC.cell 2
      have z3 : Z.cell? ⟨w.heap.size + 1, 3, none⟩ = some (.int .i64 off) := ZC.cell 3
      go_wp2
      refine bodyPost_ret (v := .tuple #[.agg #[.int .i64 m, .int .i64 p, .slice (some ⟨g, 0, none⟩) n1 cp, .int .i64 off], .int .i64 k1, .bool true]) (by simp [results, Try.results35, go_sem, z0, z1, z2, z3]; try rfl) rfl ?_
      have e := HRR.out
      subst e
      exact ⟨_, _, rfl, ZO, ZB⟩

end Go.Proofs.Ytdgccdlaokbnhaa
