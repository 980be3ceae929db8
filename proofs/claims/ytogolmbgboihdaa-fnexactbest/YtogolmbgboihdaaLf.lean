/- A task is loaded by the program: addTask, where its machine did another family last. -/
import Derived.Test.YtogolmbgboihdaaLc
namespace Go.Proofs.Ytogolmbgboihdaa
open Go Go.ChangeShapes Go.WideShapes Go.ChangeAt Go.RowKit
set_option linter.unusedVariables false
set_option linter.unusedSimpArgs false

set_option maxRecDepth 20000 in
set_option maxHeartbeats 8000000 in
theorem addTask_C (w0 : World) (LB : Nat) (ma : Option Addr) (n mk : Nat) (c : Nat → MA3) (ja : Option Addr) (m jk : Nat) (d : Nat → JB) (S : Nat → SL5) (k j t : Nat) (done : Int) (w : World)
    (hL : loB n c m d = true) (hM : MAr w0 ma n c) (hJ : JBr w0 ja m d) (hk : (k : Int) ≤ 320) (hj : j < m) (ht : t < (d j).rn)
    (hS : ∀ i, i < k → SlR n m d (S i)) (hF : S k = oneS c d S k j t) (hd : done = max (d j).rdy (mxJ S (j : Int) k)) (hca : 0 ≤ lfM d S ((d j).rz t).mac k ∧ ¬ lfM d S ((d j).rz t).mac k = ((d j).rz t).fam) (hG : LG w0 LB ma n mk ja m jk d S k w) :
    Calls Try.prog 88 #[.pointer (some ⟨LB, 0, none⟩), .int .i64 (j : Int), .int .i64 (t : Int), .int .i64 done] w (AtP w0 LB ma n mk ja m jk d S k) := by
  have hlp := lo_p hL
  have HM0 : Hid (MAr w0 ma n c) := hM
  have HG0 : Hid (LG w0 LB ma n mk ja m jk d S k w) := hG
  have hjb := jbB_p (hlp.2.2.1.2 j hj)
  have hn12 : (n : Int) ≤ 12 := by have := hlp.2.1.1; omega
  have hm40 : (m : Int) ≤ 40 := by have := hlp.2.2.1.1; omega
  have hmac := hlp.2.2.2 j hj t ht
  have htk := tkB_p (hjb.2.2 t ht)
  have hj1 := hjb.1
  obtain ⟨cs, sa, oc, h1, h2, h3, h4, h5, h6, h7⟩ := hG.main
  obtain ⟨kb, off, rfl, hkb⟩ := hJ.addr (by omega)
  obtain ⟨ra, rc, _, c0, c1, c2, c3, cT⟩ := hJ.cell hj
  obtain ⟨tb, to, rfl, htb⟩ := cT.addr (by omega)
  obtain ⟨t0, t1, t2⟩ := cT.cell ht
  replace c3 := keep_cell hG.bl c3
  replace t0 := keep_cell hG.bl t0
  replace t1 := keep_cell hG.bl t1
  replace t2 := keep_cell hG.bl t2
  have hjI : (j : Int) < (m : Int) := by omega
  have htI : (t : Int) < ((d j).rn : Int) := by omega
  obtain ⟨Q, hQ⟩ : ∃ Q : Nat, ((d j).rz t).mac = (Q : Int) := ⟨((d j).rz t).mac.toNat, by omega⟩
  have hQn : Q < n := by omega
  have hQn2 : (Q : Int) < (n : Int) := by omega
  have hQ12 : (Q : Int) < 12 := by omega
  have hQL : Q < 12 := by omega
  obtain ⟨p, p1, p2⟩ := h7 Q (by omega)
  obtain ⟨mb, mo, rfl, hmb⟩ := hM.addr (by omega)
  obtain ⟨g0, g1, g2⟩ := hM.cell hQn
  replace g0 := keep_cell hG.bl g0
  replace g1 := keep_cell hG.bl g1
  replace g2 := keep_cell hG.bl g2
  have hma := maB_p (hlp.2.1.2 Q hQn)
  have a0 := (h1.cell 0).trans h3
  have a1 := (h1.cell 1).trans h4
  have a2 := (h1.cell (2 + Q)).trans p1
  have a14 := (h1.cell 14).trans h5
  have hmx := mx_bd (j := (j : Int)) (m := (Q : Int)) hS
  have hlf := lf_bd (m := (Q : Int)) hlp.2.2.1.2 hS
  -- names
  obtain ⟨y1, hy1⟩ : ∃ y, ((d j).rz t).hrs = y := ⟨_, rfl⟩
  obtain ⟨y2, hy2⟩ : ∃ y, ((d j).rz t).fam = y := ⟨_, rfl⟩
  obtain ⟨FM, hFM⟩ : ∃ y, lfM d S (Q : Int) k = y := ⟨_, rfl⟩
  obtain ⟨XM, hXM⟩ : ∃ y, mxM S (Q : Int) k = y := ⟨_, rfl⟩
  obtain ⟨m0, hm0⟩ : ∃ y, (c Q).op = y := ⟨_, rfl⟩
  obtain ⟨m1, hm1⟩ : ∃ y, (c Q).sh = y := ⟨_, rfl⟩
  obtain ⟨m2, hm2⟩ : ∃ y, (c Q).st = y := ⟨_, rfl⟩
  obtain ⟨FR, hFR⟩ : ∃ y, max done XM = y := ⟨_, rfl⟩
  obtain ⟨HRS, hHR⟩ : ∃ y, y1 + (if FM = y2 then 0 else m2) = y := ⟨_, rfl⟩
  have hcq : c Q = ⟨m0, m1, m2⟩ := by rw [← hm0, ← hm1, ← hm2]
  have hone : S k = ⟨(j : Int), (t : Int), (Q : Int), ocB ⟨m0, m1, m2⟩ FR HRS, ocF ⟨m0, m1, m2⟩ FR HRS⟩ := by
    rw [hF]
    unfold oneS frV hrV
    rw [hQ, Int.toNat_natCast, hcq, hFM, hXM, hy1, hy2, ← hHR, ← hFR, hd]
    have e : max (d j).rdy (max (mxJ S (j : Int) k) XM) = max (max (d j).rdy (mxJ S (j : Int) k)) XM := by omega
    rw [e]
  have HONE : Hid (S k = ⟨(j : Int), (t : Int), (Q : Int), ocB ⟨m0, m1, m2⟩ FR HRS, ocF ⟨m0, m1, m2⟩ FR HRS⟩) := hone
  have hoc := oc_bd (r := ⟨m0, m1, m2⟩) (f := FR) (q := HRS)
  obtain ⟨BV, hBV⟩ : ∃ y, ocB ⟨m0, m1, m2⟩ FR HRS = y := ⟨_, rfl⟩
  obtain ⟨EV, hEV⟩ : ∃ y, ocF ⟨m0, m1, m2⟩ FR HRS = y := ⟨_, rfl⟩
  rw [hBV, hEV] at hoc
  rw [hBV, hEV] at HONE
  have HOC : Hid (∀ W : World, Calls Try.prog 17 #[.agg #[.int .i64 m0, .int .i64 m1, .int .i64 m2], .int .i64 FR, .int .i64 HRS] W fun e w' => e = .returned (.tuple #[.int .i64 BV, .int .i64 EV]) ∧ Below W.heap.size W w') := fun W => by
    have := implOccupy_any ⟨m0, m1, m2⟩ FR HRS W
    rw [hBV, hEV] at this; exact this
  rw [hQ, hFM] at hca
  rw [hFM, hXM] at hlf
  rw [hXM] at hmx
  rw [hy1, hy2] at htk
  rw [hQ] at t0 hmac
  rw [hy1] at t1
  rw [hy2] at t2
  rw [hm0] at g0
  rw [hm1] at g1
  rw [hm2] at g2
  have hmm : 0 ≤ m2 ∧ m2 ≤ 100 := by rw [hm2] at hma; omega
  have HCA : Hid (0 ≤ FM ∧ ¬ FM = y2) := by rw [hy2] at hca; exact hca
  have HFX : Hid (lfM d S (Q : Int) k = FM ∧ mxM S (Q : Int) k = XM) := ⟨hFM, hXM⟩
  have hdb : 0 ≤ done ∧ done ≤ 5000 := by omega
  have HEND : Hid (0 ≤ y2 ∧ XM ≤ FR ∧ ((BV = -1 ∧ EV = -1) ∨ (0 ≤ FR ∧ FR ≤ BV ∧ BV ≤ EV ∧ EV ≤ 5000))) := ⟨by omega, by omega, hoc⟩
  have HP2 : Hid (LPt w d S Q k p) := p2
  have HFAM : Hid (famS d (S k) = y2) := hid (by rw [hone]; unfold famS; simp only [Int.toNat_natCast]; exact hy2)
  generalize (d j).rn = rn at c3 htI
  clear hca hF hjb hj1 hm0 hm1 hm2 hcq hone hBV hEV hFM hXM hy1 hy2 hQ hd hma hG hM hJ hS hlp c0 c1 c2 cT hmac p2 hL
  have HBT : Hid (Below w.heap.size w (w.alloc (.cells #[.int .i64 (Q : Int), .int .i64 y1, .int .i64 y2] 38 (0, 0)))) := (Below.refl _ _).alloc (Nat.le_refl _) _
  have HCT : Hid (CB (w.alloc (.cells #[.int .i64 (Q : Int), .int .i64 y1, .int .i64 y2] 38 (0, 0))) w.heap.size #[.int .i64 (Q : Int), .int .i64 y1, .int .i64 y2] 38) := CB.new _ _
  unfold AtP

  go_enter Try.func88, Try.ntmps88
  go_wp2
  replace a0 := keep_cell HBT.out a0
  replace a2 := keep_cell HBT.out a2
  replace g0 := keep_cell HBT.out g0
  replace g1 := keep_cell HBT.out g1
  replace g2 := keep_cell HBT.out g2
  have x0 := (HCT.out.cell 0).trans rfl
  have lTB := HCT.out.lt
  have lLB := cell_lt a0
  have lmb := cell_lt g0
  clear t0 t1 t2 c3 a1 a14 h1 h2 h3 h4 h5 h6 h7 p1
  have HG1 : Hid (LG w0 LB (some ⟨mb, mo, none⟩) n mk (some ⟨kb, off, none⟩) m jk d S k (w.alloc (.cells #[.int .i64 (Q : Int), .int .i64 y1, .int .i64 y2] 38 (0, 0)))) := HG0.out.below HBT.out
  have HP1 : Hid (LPt (w.alloc (.cells #[.int .i64 (Q : Int), .int .i64 y1, .int .i64 y2] 38 (0, 0))) d S Q k p) := HP2.out.below HBT.out
  clear HP2
  generalize hW1 : w.alloc (.cells #[.int .i64 (Q : Int), .int .i64 y1, .int .i64 y2] 38 (0, 0)) = W1 at *
  generalize hTB : w.heap.size = TB at *
  go_region
  clear a0 x0 g0 g1 g2
  have HG2 : Hid (LG w0 LB (some ⟨mb, mo, none⟩) n mk (some ⟨kb, off, none⟩) m jk d S k (W1.alloc (.cells #[.int .i64 m0, .int .i64 m1, .int .i64 m2] 43 (0, 0))).drew) := HG1.out.below ((Below.refl _ _).alloc (Nat.le_refl _) _).drew
  have HT2 : Hid (CB (W1.alloc (.cells #[.int .i64 m0, .int .i64 m1, .int .i64 m2] 43 (0, 0))).drew TB #[.int .i64 (Q : Int), .int .i64 y1, .int .i64 y2] 38) := HCT.out.below ((Below.refl _ _).alloc (Nat.le_refl _) _).drew HCT.out.lt
  have HM2 : Hid (CB (W1.alloc (.cells #[.int .i64 m0, .int .i64 m1, .int .i64 m2] 43 (0, 0))).drew W1.heap.size #[.int .i64 m0, .int .i64 m1, .int .i64 m2] 43) := hid (CB.new (w := W1) #[.int .i64 m0, .int .i64 m1, .int .i64 m2] 43)
  have HP3 : Hid (LPt (W1.alloc (.cells #[.int .i64 m0, .int .i64 m1, .int .i64 m2] 43 (0, 0))).drew d S Q k p) := HP1.out.below ((Below.refl _ _).alloc (Nat.le_refl _) _).drew
  clear hW1 HG0 HG1 HCT HP1 HBT
  generalize hW2 : (W1.alloc (.cells #[.int .i64 m0, .int .i64 m1, .int .i64 m2] 43 (0, 0))).drew = W2 at HG2 HT2 HM2 HP3 ⊢
  generalize hMB : W1.heap.size = MB at *
  clear hW2 hMB lTB lLB lmb
  have x1 := (HT2.out.cell 1).trans rfl
  have x2 := (HT2.out.cell 2).trans rfl
  have z0 := (HM2.out.cell 0).trans rfl
  have z1 := (HM2.out.cell 1).trans rfl
  have z2 := (HM2.out.cell 2).trans rfl
  have hFMn : ¬ FM = y2 := HCA.out.2
  rcases HP3.out with ⟨rfl, hf⟩ | ⟨pb, rfl, hpc, hf⟩
  · exfalso; rw [HFX.out.1] at hf; have := HCA.out.1; omega
  · rw [HFX.out.1] at hf
    rw [HFX.out.1, HFX.out.2] at hpc
    have b0 := (hpc.cell 0).trans rfl
    have b1 := (hpc.cell 1).trans rfl
    have HPC := hid hpc
    have hmax : (if done < XM then XM else done) = FR := by rw [← hFR]; split <;> omega
    rw [if_neg hFMn] at hHR
    have hdn : (FM != y2) = true := by simpa using hFMn
    have hwr : IntKind.i64.wrap (y1 + m2) = y1 + m2 := IntWalk.i64_in _ ⟨by omega, by omega⟩
    subst hHR
    clear HP3 hpc
    go_wp2
    go_quiet (fail)
    have HG3 := hid (HG2.out.below (bd_N (Below.refl _ _) nq))
    have HT3 := hid (HT2.out.below (bd_N (Below.refl _ _) nq) HT2.out.lt)
    have HM3 := hid (HM2.out.below (bd_N (Below.refl _ _) nq) HM2.out.lt)
    have HPC3 := hid (HPC.out.below (bd_N (Below.refl _ _) nq) HPC.out.lt)
    generalize W2.drewN nq = W3 at HG3 HT3 HM3 HPC3 ⊢
    clear HG2 HT2 HM2 x1 x2 z0 z1 z2
    have x1 := (HT3.out.cell 1).trans rfl
    have x2 := (HT3.out.cell 2).trans rfl
    have z0 := (HM3.out.cell 0).trans rfl
    have z1 := (HM3.out.cell 1).trans rfl
    have z2 := (HM3.out.cell 2).trans rfl
    replace HPC := HPC3
    clear HPC3 b0 b1
    have b1 := (HPC.out.cell 1).trans rfl
    go_wp2_with (go_at_call 17; go_loud (refine (HOC.out _).mono ?_; rintro e w5 ⟨rfl, b5⟩; have HG5 := hid (HG3.out.below b5); have HT5 := hid (HT3.out.below b5 HT3.out.lt); clear b5))
    clear HG3 HT3 HM3 x1 x2 z0 z1 z2
    try clear hoc
    try clear hmx
    try clear hlf
    try clear htk
    try clear hdb
    try clear hmm
    try clear hmax
    try clear hdn
    try clear hwr
    try clear hne
    try clear hFMn
    try clear hFR
    try clear HCA
    try clear HOC
    try clear HPC
    try clear b1
    try clear HP3
    try clear hf
    try clear hjI
    try clear htI
    try clear hQn
    try clear hQn2
    try clear hn12
    try clear hm40
    try clear hkb
    try clear htb
    try clear hmb
    try clear HM0
    try clear hQ12
    skip
    obtain ⟨sa, oc, HL5⟩ := HG5.out.open HT5.out
    have HLh := hid HL5
    have HLd := hid (HL5.below (Below.refl _ _).drew)
    have HTd : Hid (w5.drew.cell? ⟨TB, 0, none⟩ = some (.int .i64 (Q : Int))) := hid ((HLd.out.tb.cell 0).trans rfl)
    clear HL5 HG5 HT5
    obtain ⟨i5, hi5, hz50, hz51, hz52⟩ := infoSL5
    refine wp_region_noPanic ?_
    refine wp_region_held_drew (S := fun w' => w'.cell? ⟨TB, 0, none⟩ = some (.int .i64 (Q : Int))) (by kernel_rfl) (by exact HTd.out) (fun hHeld => ?_)
    refine wpAnyH_take (i := 0) (oi := { dst := some 73, op := Go.Op.move (Go.Operand.tmp 0), type := 84, pos := "l19_load.go:157", after := #[], guard := none }) (v := ?_) rfl (by kernel_rfl) (by kernel_rfl) (by kernel_rfl) (fun _ _ _ h => h) (Or.inl ⟨by rfl, ?_⟩) (by assumption) ?_
    rotate_left
    · (intro w hSw; (try dsimp only at hSw); go_simp <;> try with_reducible rfl)
    try simp only [Act.put, List.setIfInBounds_toArray, List.set_cons_zero, List.set_cons_succ]
    refine wpAnyH_take (i := 1) (oi := { dst := some 74, op := Go.Op.move (Go.Operand.tmp 0), type := 84, pos := "l19_load.go:157", after := #[], guard := none }) (v := ?_) rfl (by kernel_rfl) (by kernel_rfl) (by kernel_rfl) (fun _ _ _ h => h) (Or.inl ⟨by rfl, ?_⟩) (by assumption) ?_
    rotate_left
    · (intro w hSw; (try dsimp only at hSw); go_simp <;> try with_reducible rfl)
    try simp only [Act.put, List.setIfInBounds_toArray, List.set_cons_zero, List.set_cons_succ]
    refine wpAnyH_take (i := 2) (oi := { dst := some 75, op := Go.Op.nilCheck (Go.Operand.tmp 74), type := 0, pos := "l19_load.go:157", after := #[{ on := 1, ground := Go.Ground.data }], guard := none }) (v := ?_) rfl (by kernel_rfl) (by kernel_rfl) (by kernel_rfl) (fun _ _ _ h => h) (Or.inl ⟨by rfl, ?_⟩) (by assumption) ?_
    rotate_left
    · (intro w hSw; (try dsimp only at hSw); go_simp <;> try with_reducible rfl)
    try simp only [Act.put, List.setIfInBounds_toArray, List.set_cons_zero, List.set_cons_succ]
    refine wpAnyH_take (i := 3) (oi := { dst := some 76, op := Go.Op.fieldAddr 88 (Go.Operand.tmp 75) 3, type := 0, pos := "l19_load.go:157", after := #[{ on := 2, ground := Go.Ground.data }], guard := none }) (v := ?_) rfl (by kernel_rfl) (by kernel_rfl) (by kernel_rfl) (fun _ _ _ h => h) (Or.inl ⟨by rfl, ?_⟩) (by assumption) ?_
    rotate_left
    · (intro w hSw; (try dsimp only at hSw); go_simp <;> try with_reducible rfl)
    try simp only [Act.put, List.setIfInBounds_toArray, List.set_cons_zero, List.set_cons_succ]
    refine wpAnyH_take (i := 5) (oi := { dst := some 78, op := Go.Op.move (Go.Operand.tmp 1), type := 3, pos := "l19_load.go:157", after := #[], guard := none }) (v := ?_) rfl (by kernel_rfl) (by kernel_rfl) (by kernel_rfl) (fun _ _ _ h => h) (Or.inl ⟨by rfl, ?_⟩) (by assumption) ?_
    rotate_left
    · (intro w hSw; (try dsimp only at hSw); go_simp <;> try with_reducible rfl)
    try simp only [Act.put, List.setIfInBounds_toArray, List.set_cons_zero, List.set_cons_succ]
    refine wpAnyH_take (i := 6) (oi := { dst := some 79, op := Go.Op.move (Go.Operand.tmp 2), type := 3, pos := "l19_load.go:157", after := #[], guard := none }) (v := ?_) rfl (by kernel_rfl) (by kernel_rfl) (by kernel_rfl) (fun _ _ _ h => h) (Or.inl ⟨by rfl, ?_⟩) (by assumption) ?_
    rotate_left
    · (intro w hSw; (try dsimp only at hSw); go_simp <;> try with_reducible rfl)
    try simp only [Act.put, List.setIfInBounds_toArray, List.set_cons_zero, List.set_cons_succ]
    refine wpAnyH_take (i := 7) (oi := { dst := some 80, op := Go.Op.fieldAddr 38 (Go.Operand.tmp 9) 0, type := 0, pos := "l19_load.go:157", after := #[], guard := none }) (v := ?_) rfl (by kernel_rfl) (by kernel_rfl) (by kernel_rfl) (fun _ _ _ h => h) (Or.inl ⟨by rfl, ?_⟩) (by assumption) ?_
    rotate_left
    · (intro w hSw; (try dsimp only at hSw); go_simp <;> try with_reducible rfl)
    try simp only [Act.put, List.setIfInBounds_toArray, List.set_cons_zero, List.set_cons_succ]
    refine wpAnyH_take (i := 8) (oi := { dst := some 81, op := Go.Op.load 3 (Go.Operand.tmp 80), type := 3, pos := "l19_load.go:157", after := #[{ on := 7, ground := Go.Ground.data }], guard := none }) (v := ?_) rfl (by kernel_rfl) (by kernel_rfl) (by kernel_rfl) (fun _ _ _ h => h) (Or.inl ⟨by rfl, ?_⟩) (by assumption) ?_
    rotate_left
    · (intro w hSw; (try dsimp only at hSw); go_simp <;> try with_reducible rfl)
    try simp only [Act.put, List.setIfInBounds_toArray, List.set_cons_zero, List.set_cons_succ]
    refine wpAnyH_take (i := 9) (oi := { dst := some 82, op := Go.Op.move (Go.Operand.tmp 13), type := 3, pos := "l19_load.go:157", after := #[], guard := none }) (v := ?_) rfl (by kernel_rfl) (by kernel_rfl) (by kernel_rfl) (fun _ _ _ h => h) (Or.inl ⟨by rfl, ?_⟩) (by assumption) ?_
    rotate_left
    · (intro w hSw; (try dsimp only at hSw); go_simp <;> try with_reducible rfl)
    try simp only [Act.put, List.setIfInBounds_toArray, List.set_cons_zero, List.set_cons_succ]
    refine wpAnyH_take (i := 10) (oi := { dst := some 83, op := Go.Op.move (Go.Operand.tmp 14), type := 3, pos := "l19_load.go:157", after := #[], guard := none }) (v := ?_) rfl (by kernel_rfl) (by kernel_rfl) (by kernel_rfl) (fun _ _ _ h => h) (Or.inl ⟨by rfl, ?_⟩) (by assumption) ?_
    rotate_left
    · (intro w hSw; (try dsimp only at hSw); go_simp <;> try with_reducible rfl)
    try simp only [Act.put, List.setIfInBounds_toArray, List.set_cons_zero, List.set_cons_succ]
    refine wpAnyH_take (i := 11) (oi := { dst := some 84, op := Go.Op.build 36 #[(0, Go.Operand.tmp 78), (1, Go.Operand.tmp 79), (2, Go.Operand.tmp 81), (3, Go.Operand.tmp 82), (4, Go.Operand.tmp 83)], type := 36, pos := "l19_load.go:157", after := #[{ on := 5, ground := Go.Ground.data }, { on := 6, ground := Go.Ground.data }, { on := 8, ground := Go.Ground.data }, { on := 9, ground := Go.Ground.data }, { on := 10, ground := Go.Ground.data }], guard := none }) (v := ?_) rfl (by kernel_rfl) (by kernel_rfl) (by kernel_rfl) (fun _ _ _ h => h) (Or.inl ⟨by rfl, ?_⟩) (by assumption) ?_
    rotate_left
    · (intro w hSw; (try dsimp only at hSw); go_simp <;> try with_reducible rfl)
    try simp only [Act.put, List.setIfInBounds_toArray, List.set_cons_zero, List.set_cons_succ]
    refine wpAnyH_ready (rs := [4, 12]) (by kernel_rfl) (by simp) ?_
    refine AllReadyH.cons (o := { dst := some 77, op := Go.Op.load 29 (Go.Operand.tmp 76), type := 29, pos := "l19_load.go:157", after := #[{ on := 3, ground := Go.Ground.data }], guard := none }) rfl (fun K hK => ?_) (AllReadyH.cons (o := { dst := some 85, op := Go.Op.buildSlice 29 1 #[(0, Go.Operand.tmp 84)], type := 29, pos := "l19_load.go:157", after := #[{ on := 11, ground := Go.Ground.data }], guard := none }) rfl (fun K hK => ?_) (AllReadyH.nil))
    · have hce := HLd.out.c14
      go_simp
      refine hK.out _ _ (by exact HTd.out) (fun hHeld => ?_)
      clear hK K hce
      try simp only [Act.put, List.setIfInBounds_toArray, List.set_cons_zero, List.set_cons_succ]
      refine wpAnyH_ready (rs := [12]) (by kernel_rfl) (by simp) ?_
      refine AllReadyH.cons (o := { dst := some 85, op := Go.Op.buildSlice 29 1 #[(0, Go.Operand.tmp 84)], type := 29, pos := "l19_load.go:157", after := #[{ on := 11, ground := Go.Ground.data }], guard := none }) rfl (fun K hK => ?_) (AllReadyH.nil)
      go_simp
      have PA := hid (HLh.out.below (((Below.refl _ _).alloc (Nat.le_refl _) (.cells #[.int .i64 (j : Int), .int .i64 (t : Int), .int .i64 (Q : Int), .int .i64 BV, .int .i64 EV] 36 (0, 0))).drew))
      have HTa := hid ((PA.out.tb.cell 0).trans rfl)
      refine hK.out _ _ (by exact HTa.out) (fun hHeld => ?_)
      clear hK K
      try simp only [Act.put, List.setIfInBounds_toArray, List.set_cons_zero, List.set_cons_succ]
      refine wpAnyH_ready (rs := [13]) (by kernel_rfl) (by simp) ?_
      refine AllReadyH.cons (o := { dst := some 86, op := Go.Op.call { callee := Go.Callee.builtin Go.Builtin.append, args := #[Go.Operand.tmp 77, Go.Operand.tmp 85], argTypes := #[29, 29] }, type := 29, pos := "l19_load.go:157", after := #[{ on := 4, ground := Go.Ground.data }, { on := 12, ground := Go.Ground.data }], guard := none }) rfl (fun K hK => ?_) (AllReadyH.nil)
      rw [if_pos (by rfl)]
      refine oper_append (Operand.tmp 77) (Operand.tmp 85) 29 rfl w0.heap.size 36 i5 (.agg #[.int .i64 0, .int .i64 0, .int .i64 0, .int .i64 0, .int .i64 0]) 5 40 Try.underlying29 hi5 hz50 hz51 hz52 rfl (by decide) (.slice (some ⟨sa, 0, none⟩) k oc) k (rowSL5 S k) rfl PA.out.own ⟨_, 0, none⟩ 1 1 [.int .i64 (j : Int), .int .i64 (t : Int), .int .i64 (Q : Int), .int .i64 BV, .int .i64 EV] rfl rfl (ecells (by first | rfl | simp)) (fun u hu => by simp at hu; rcases hu with rfl | rfl | rfl | rfl | rfl <;> rfl) (by unfold maxLen; omega) (by omega) PA.out.bl.size ?_
      intro v9 w9 hown hgrow hat
      obtain ⟨g9, oc9, rfl, _⟩ := eown_some hown (by omega)
      have P9 := hid (PA.out.grow (g9 := g9) (oc9 := oc9) hgrow (by rw [rowSL5, HONE.out]; exact hown))
      have HT9 := hid ((P9.out.tb.cell 0).trans rfl)
      clear hown hgrow hat PA HTa
      refine hK.out _ _ (by exact HT9.out) (fun hHeld => ?_)
      clear hK K
      try simp only [Act.put, List.setIfInBounds_toArray, List.set_cons_zero, List.set_cons_succ]
      refine wpAnyH_take (i := 14) (oi := { dst := some 87, op := Go.Op.nilCheck (Go.Operand.tmp 73), type := 0, pos := "l19_load.go:157", after := #[{ on := 0, ground := Go.Ground.data }, { on := 0, ground := Go.Ground.phase }, { on := 1, ground := Go.Ground.phase }, { on := 2, ground := Go.Ground.phase }, { on := 3, ground := Go.Ground.phase }, { on := 4, ground := Go.Ground.phase }, { on := 5, ground := Go.Ground.phase }, { on := 6, ground := Go.Ground.phase }, { on := 7, ground := Go.Ground.phase }, { on := 8, ground := Go.Ground.phase }, { on := 9, ground := Go.Ground.phase }, { on := 10, ground := Go.Ground.phase }, { on := 11, ground := Go.Ground.phase }, { on := 12, ground := Go.Ground.phase }, { on := 13, ground := Go.Ground.phase }], guard := none }) (v := ?_) rfl (by kernel_rfl) (by kernel_rfl) (by kernel_rfl) (fun _ _ _ h => h) (Or.inl ⟨by rfl, ?_⟩) (by assumption) ?_
      rotate_left
      · (intro w hSw; (try dsimp only at hSw); go_simp <;> try with_reducible rfl)
      try simp only [Act.put, List.setIfInBounds_toArray, List.set_cons_zero, List.set_cons_succ]
      refine wpAnyH_take (i := 15) (oi := { dst := some 88, op := Go.Op.fieldAddr 88 (Go.Operand.tmp 87) 3, type := 0, pos := "l19_load.go:157", after := #[{ on := 14, ground := Go.Ground.data }, { on := 0, ground := Go.Ground.phase }, { on := 1, ground := Go.Ground.phase }, { on := 2, ground := Go.Ground.phase }, { on := 3, ground := Go.Ground.phase }, { on := 4, ground := Go.Ground.phase }, { on := 5, ground := Go.Ground.phase }, { on := 6, ground := Go.Ground.phase }, { on := 7, ground := Go.Ground.phase }, { on := 8, ground := Go.Ground.phase }, { on := 9, ground := Go.Ground.phase }, { on := 10, ground := Go.Ground.phase }, { on := 11, ground := Go.Ground.phase }, { on := 12, ground := Go.Ground.phase }, { on := 13, ground := Go.Ground.phase }], guard := none }) (v := ?_) rfl (by kernel_rfl) (by kernel_rfl) (by kernel_rfl) (fun _ _ _ h => h) (Or.inl ⟨by rfl, ?_⟩) (by assumption) ?_
      rotate_left
      · (intro w hSw; (try dsimp only at hSw); go_simp <;> try with_reducible rfl)
      try simp only [Act.put, List.setIfInBounds_toArray, List.set_cons_zero, List.set_cons_succ]
      refine wpAnyH_ready (rs := [16]) (by kernel_rfl) (by simp) ?_
      refine AllReadyH.cons (o := { dst := none, op := Go.Op.store 29 (Go.Operand.tmp 88) (Go.Operand.tmp 86), type := 0, pos := "l19_load.go:157", after := #[{ on := 15, ground := Go.Ground.data }, { on := 13, ground := Go.Ground.data }, { on := 13, ground := Go.Ground.chain }, { on := 0, ground := Go.Ground.phase }, { on := 1, ground := Go.Ground.phase }, { on := 2, ground := Go.Ground.phase }, { on := 3, ground := Go.Ground.phase }, { on := 4, ground := Go.Ground.phase }, { on := 5, ground := Go.Ground.phase }, { on := 6, ground := Go.Ground.phase }, { on := 7, ground := Go.Ground.phase }, { on := 8, ground := Go.Ground.phase }, { on := 9, ground := Go.Ground.phase }, { on := 10, ground := Go.Ground.phase }, { on := 11, ground := Go.Ground.phase }, { on := 12, ground := Go.Ground.phase }, { on := 13, ground := Go.Ground.phase }], guard := none }) rfl (fun K hK => ?_) (AllReadyH.nil)
      have hce := P9.out.c14
      have hcf := P9.out.fr 14
      have PP := hid (P9.out.put (sl2 := .slice (some ⟨g9, 0, none⟩) (k + 1) oc9))
      have HTp := hid ((PP.out.tb.cell 0).trans rfl)
      go_simp
      refine hK.out _ _ (by exact HTp.out) (fun hHeld => ?_)
      clear hK K hce hcf
      try simp only [Act.put, List.setIfInBounds_toArray, List.set_cons_zero, List.set_cons_succ]
      refine wpAnyH_done (by kernel_rfl) ?_ _
      refine NoPanic.normal ?_
      clear hHeld P9 HT9 HTp HTd HLd HLh
      generalize hW9 : w9.setCell ⟨LB, 14, none⟩ (.slice (some ⟨g9, 0, none⟩) (k + 1) oc9) = W9 at *
      clear hW9
      have x0 := (PP.out.tb.cell 0).trans rfl
      have x2 := (PP.out.tb.cell 2).trans rfl
      obtain ⟨ds, q1, q2, q3, q4, q5, q6⟩ := PP.out.main
      obtain ⟨pp, pp1, _⟩ := q6 Q (by omega)
      have a2 := (q1.cell (2 + Q)).trans pp1
      have fa := q1.fr (2 + Q)
      have lLB := q1.lt
      have lTB := PP.out.tb.lt
      clear q1 q2 q3 q4 q5 q6 pp1
      go_wp2
      go_region
      have PZ := hid (PP.out.below ((Below.refl _ _).alloc (Nat.le_refl _) (.cells #[.int .i64 y2, .int .i64 EV] 139 (0, 0))))
      have HZ := hid (CB.new (w := W9) #[.int .i64 y2, .int .i64 EV] 139)
      go_wp2
      go_returns
      have HEQ := World.setCell_alloc_past (w := W9) (.cells #[.int .i64 y2, .int .i64 EV] 139 (0, 0)) LB (2 + Q) (.pointer (some ⟨W9.heap.size, 0, none⟩)) lLB
      rw [← HEQ]
      refine ⟨ret_i (by rw [HONE.out]), (PZ.out.bl.setCell (p := ⟨LB, 2 + Q, none⟩) PZ.out.lo _).drew, fun h => ?_⟩
      exact (PZ.out.done HZ.out hQL (by rw [HONE.out]) HFAM.out HEND.out.1 (by rw [HONE.out]) (by have := HFX.out.2; have := HEND.out; rw [HONE.out] at h; simp only at h; omega)).below (Below.refl _ _).drew
    · go_simp
      have PA := hid (HLh.out.below (((Below.refl _ _).alloc (Nat.le_refl _) (.cells #[.int .i64 (j : Int), .int .i64 (t : Int), .int .i64 (Q : Int), .int .i64 BV, .int .i64 EV] 36 (0, 0))).drew))
      have HTa := hid ((PA.out.tb.cell 0).trans rfl)
      refine hK.out _ _ (by exact HTa.out) (fun hHeld => ?_)
      clear hK K
      try simp only [Act.put, List.setIfInBounds_toArray, List.set_cons_zero, List.set_cons_succ]
      refine wpAnyH_ready (rs := [4]) (by kernel_rfl) (by simp) ?_
      refine AllReadyH.cons (o := { dst := some 77, op := Go.Op.load 29 (Go.Operand.tmp 76), type := 29, pos := "l19_load.go:157", after := #[{ on := 3, ground := Go.Ground.data }], guard := none }) rfl (fun K hK => ?_) (AllReadyH.nil)
      have hce := PA.out.c14
      go_simp
      refine hK.out _ _ (by exact HTa.out) (fun hHeld => ?_)
      clear hK K hce
      try simp only [Act.put, List.setIfInBounds_toArray, List.set_cons_zero, List.set_cons_succ]
      refine wpAnyH_ready (rs := [13]) (by kernel_rfl) (by simp) ?_
      refine AllReadyH.cons (o := { dst := some 86, op := Go.Op.call { callee := Go.Callee.builtin Go.Builtin.append, args := #[Go.Operand.tmp 77, Go.Operand.tmp 85], argTypes := #[29, 29] }, type := 29, pos := "l19_load.go:157", after := #[{ on := 4, ground := Go.Ground.data }, { on := 12, ground := Go.Ground.data }], guard := none }) rfl (fun K hK => ?_) (AllReadyH.nil)
      rw [if_pos (by rfl)]
      refine oper_append (Operand.tmp 77) (Operand.tmp 85) 29 rfl w0.heap.size 36 i5 (.agg #[.int .i64 0, .int .i64 0, .int .i64 0, .int .i64 0, .int .i64 0]) 5 40 Try.underlying29 hi5 hz50 hz51 hz52 rfl (by decide) (.slice (some ⟨sa, 0, none⟩) k oc) k (rowSL5 S k) rfl PA.out.own ⟨_, 0, none⟩ 1 1 [.int .i64 (j : Int), .int .i64 (t : Int), .int .i64 (Q : Int), .int .i64 BV, .int .i64 EV] rfl rfl (ecells (by first | rfl | simp)) (fun u hu => by simp at hu; rcases hu with rfl | rfl | rfl | rfl | rfl <;> rfl) (by unfold maxLen; omega) (by omega) PA.out.bl.size ?_
      intro v9 w9 hown hgrow hat
      obtain ⟨g9, oc9, rfl, _⟩ := eown_some hown (by omega)
      have P9 := hid (PA.out.grow (g9 := g9) (oc9 := oc9) hgrow (by rw [rowSL5, HONE.out]; exact hown))
      have HT9 := hid ((P9.out.tb.cell 0).trans rfl)
      clear hown hgrow hat PA HTa
      refine hK.out _ _ (by exact HT9.out) (fun hHeld => ?_)
      clear hK K
      try simp only [Act.put, List.setIfInBounds_toArray, List.set_cons_zero, List.set_cons_succ]
      refine wpAnyH_take (i := 14) (oi := { dst := some 87, op := Go.Op.nilCheck (Go.Operand.tmp 73), type := 0, pos := "l19_load.go:157", after := #[{ on := 0, ground := Go.Ground.data }, { on := 0, ground := Go.Ground.phase }, { on := 1, ground := Go.Ground.phase }, { on := 2, ground := Go.Ground.phase }, { on := 3, ground := Go.Ground.phase }, { on := 4, ground := Go.Ground.phase }, { on := 5, ground := Go.Ground.phase }, { on := 6, ground := Go.Ground.phase }, { on := 7, ground := Go.Ground.phase }, { on := 8, ground := Go.Ground.phase }, { on := 9, ground := Go.Ground.phase }, { on := 10, ground := Go.Ground.phase }, { on := 11, ground := Go.Ground.phase }, { on := 12, ground := Go.Ground.phase }, { on := 13, ground := Go.Ground.phase }], guard := none }) (v := ?_) rfl (by kernel_rfl) (by kernel_rfl) (by kernel_rfl) (fun _ _ _ h => h) (Or.inl ⟨by rfl, ?_⟩) (by assumption) ?_
      rotate_left
      · (intro w hSw; (try dsimp only at hSw); go_simp <;> try with_reducible rfl)
      try simp only [Act.put, List.setIfInBounds_toArray, List.set_cons_zero, List.set_cons_succ]
      refine wpAnyH_take (i := 15) (oi := { dst := some 88, op := Go.Op.fieldAddr 88 (Go.Operand.tmp 87) 3, type := 0, pos := "l19_load.go:157", after := #[{ on := 14, ground := Go.Ground.data }, { on := 0, ground := Go.Ground.phase }, { on := 1, ground := Go.Ground.phase }, { on := 2, ground := Go.Ground.phase }, { on := 3, ground := Go.Ground.phase }, { on := 4, ground := Go.Ground.phase }, { on := 5, ground := Go.Ground.phase }, { on := 6, ground := Go.Ground.phase }, { on := 7, ground := Go.Ground.phase }, { on := 8, ground := Go.Ground.phase }, { on := 9, ground := Go.Ground.phase }, { on := 10, ground := Go.Ground.phase }, { on := 11, ground := Go.Ground.phase }, { on := 12, ground := Go.Ground.phase }, { on := 13, ground := Go.Ground.phase }], guard := none }) (v := ?_) rfl (by kernel_rfl) (by kernel_rfl) (by kernel_rfl) (fun _ _ _ h => h) (Or.inl ⟨by rfl, ?_⟩) (by assumption) ?_
      rotate_left
      · (intro w hSw; (try dsimp only at hSw); go_simp <;> try with_reducible rfl)
      try simp only [Act.put, List.setIfInBounds_toArray, List.set_cons_zero, List.set_cons_succ]
      refine wpAnyH_ready (rs := [16]) (by kernel_rfl) (by simp) ?_
      refine AllReadyH.cons (o := { dst := none, op := Go.Op.store 29 (Go.Operand.tmp 88) (Go.Operand.tmp 86), type := 0, pos := "l19_load.go:157", after := #[{ on := 15, ground := Go.Ground.data }, { on := 13, ground := Go.Ground.data }, { on := 13, ground := Go.Ground.chain }, { on := 0, ground := Go.Ground.phase }, { on := 1, ground := Go.Ground.phase }, { on := 2, ground := Go.Ground.phase }, { on := 3, ground := Go.Ground.phase }, { on := 4, ground := Go.Ground.phase }, { on := 5, ground := Go.Ground.phase }, { on := 6, ground := Go.Ground.phase }, { on := 7, ground := Go.Ground.phase }, { on := 8, ground := Go.Ground.phase }, { on := 9, ground := Go.Ground.phase }, { on := 10, ground := Go.Ground.phase }, { on := 11, ground := Go.Ground.phase }, { on := 12, ground := Go.Ground.phase }, { on := 13, ground := Go.Ground.phase }], guard := none }) rfl (fun K hK => ?_) (AllReadyH.nil)
      have hce := P9.out.c14
      have hcf := P9.out.fr 14
      have PP := hid (P9.out.put (sl2 := .slice (some ⟨g9, 0, none⟩) (k + 1) oc9))
      have HTp := hid ((PP.out.tb.cell 0).trans rfl)
      go_simp
      refine hK.out _ _ (by exact HTp.out) (fun hHeld => ?_)
      clear hK K hce hcf
      try simp only [Act.put, List.setIfInBounds_toArray, List.set_cons_zero, List.set_cons_succ]
      refine wpAnyH_done (by kernel_rfl) ?_ _
      refine NoPanic.normal ?_
      clear hHeld P9 HT9 HTp HTd HLd HLh
      generalize hW9 : w9.setCell ⟨LB, 14, none⟩ (.slice (some ⟨g9, 0, none⟩) (k + 1) oc9) = W9 at *
      clear hW9
      have x0 := (PP.out.tb.cell 0).trans rfl
      have x2 := (PP.out.tb.cell 2).trans rfl
      obtain ⟨ds, q1, q2, q3, q4, q5, q6⟩ := PP.out.main
      obtain ⟨pp, pp1, _⟩ := q6 Q (by omega)
      have a2 := (q1.cell (2 + Q)).trans pp1
      have fa := q1.fr (2 + Q)
      have lLB := q1.lt
      have lTB := PP.out.tb.lt
      clear q1 q2 q3 q4 q5 q6 pp1
      go_wp2
      go_region
      have PZ := hid (PP.out.below ((Below.refl _ _).alloc (Nat.le_refl _) (.cells #[.int .i64 y2, .int .i64 EV] 139 (0, 0))))
      have HZ := hid (CB.new (w := W9) #[.int .i64 y2, .int .i64 EV] 139)
      go_wp2
      go_returns
      have HEQ := World.setCell_alloc_past (w := W9) (.cells #[.int .i64 y2, .int .i64 EV] 139 (0, 0)) LB (2 + Q) (.pointer (some ⟨W9.heap.size, 0, none⟩)) lLB
      rw [← HEQ]
      refine ⟨ret_i (by rw [HONE.out]), (PZ.out.bl.setCell (p := ⟨LB, 2 + Q, none⟩) PZ.out.lo _).drew, fun h => ?_⟩
      exact (PZ.out.done HZ.out hQL (by rw [HONE.out]) HFAM.out HEND.out.1 (by rw [HONE.out]) (by have := HFX.out.2; have := HEND.out; rw [HONE.out] at h; simp only at h; omega)).below (Below.refl _ _).drew
end Go.Proofs.Ytogolmbgboihdaa
