/- Output of the model. -/
import Derived.Test.YtmbdeafpfdeigaaKl
namespace Go.Proofs.Ytmbdeafpfdeigaa
open Go Go.ChangeShapes Go.WideShapes Go.ChangeAt Go.RowKit
set_option linter.unusedVariables false
set_option linter.unusedSimpArgs false

theorem exF_q2 {f : Nat → Int} {nb : Int} {c : Nat → PA6} (hf : ∀ j, 0 ≤ f j ∧ f j ≤ 2000000) : ∀ k, exB f nb c k = true → ∀ j, 0 ≤ exF f nb c k j ∧ exF f nb c k j ≤ 2000000
  | 0, _ => hf
  | k + 1, h => fun j => by
    simp only [exB, Bool.and_eq_true] at h
    have ih := exF_q2 hf k h.1
    show 0 ≤ upI _ _ _ j ∧ upI _ _ _ j ≤ 2000000
    by_cases e : j = (c k).item.toNat
    · subst e
      rw [upI_eq]
      have := h.2
      simp only [stB, Bool.and_eq_true] at this
      have := inB_t this.2
      omega
    · rw [upI_ne e]; exact ih j
theorem exF_off {f : Nat → Int} {nb : Int} {c : Nat → PA6} {i : Nat} : ∀ k, (∀ j, j < k → (c j).item.toNat ≠ i) → exF f nb c k i = f i
  | 0, _ => rfl
  | k + 1, h => by
    show upI _ _ _ i = _
    rw [upI_ne (fun e => h k (by omega) e.symm)]
    exact exF_off k (fun j hj => h j (by omega))
theorem tk_scr {nb : Int} {p : PA6} (h0 : 0 ≤ nb * p.qty) (h1 : nb * p.qty ≤ 1000000) (hs : p.scr = 0) : tk nb p = nb * p.qty := by
  obtain ⟨m1, m2, m3, m4⟩ := md_tk h0 (by omega) (show 0 ≤ p.scr ∧ p.scr ≤ 100 by omega)
  have hc := dv_ceil (nb * p.qty * (100 + p.scr)) (by rw [hs]; omega)
  unfold tk mdV
  rw [if_pos (m1 h1), hc, hs]
  omega
set_option maxRecDepth 20000 in
set_option maxHeartbeats 8000000 in
theorem specOutput_any (ad : Option Addr) (n cap : Nat) (c : Nat → IT) (a q d : Int) (w : World) (h : (n : Int) ≤ 1048576) (hz : IZ n c) (hr : ITr w ad n c) :
    Calls Try.prog 44 #[.slice ad n cap, .int .i64 a, .int .i64 q, .int .i64 d] w fun e w' => ∃ ad cap, e = .returned (.tuple #[.slice ad (rkM ouB n c a q d) cap, .bool (rkB ouB n c a q d)]) ∧ OwnI w' w.heap.size ad (rkM ouB n c a q d) (ouF n c d a.toNat q) ∧ Below w.heap.size w w' := by
  have HR : Hid (ITr w ad n c) := hr
  have HZ : Hid (IZ n c) := hz
  have HFA : Hid (rkB ouB n c a q d = false → rkM ouB n c a q d = 0) := hid (fun q => by unfold rkM; rw [q]; rfl)
  clear hr hz
  cases hak : akB n c a q d
  · have HV : Hid (rkB ouB n c a q d = false ∧ rkM ouB n c a q d = 0) := hid (by
      have e : rkB ouB n c a q d = false := by simp [rkB, hak]
      exact ⟨e, HFA.out e⟩)
    have HAK : Hid (akB n c a q d = false) := hak
    rw [HV.out.1, HV.out.2]
    clear hak
    go_enter Try.func44, Try.ntmps44
    go_wp2_with (go_at_call 56; refine (l17Asked_eq ad n cap c a q d _ _ h HZ.out HR.out HAK.out).mono ?_; rintro e w1 ⟨rfl, b1⟩; have HB1 : Hid (Below w.heap.size w w1) := b1; clear b1)
    go_returns
    exact ⟨_, _, rfl, .inl rfl, bel_on HB1.out ((Below.refl _ _).alloc (Nat.le_refl _) _)⟩
  have HAK : Hid (akB n c a q d = true) := hak
  obtain ⟨hI, ⟨ha0, ha1⟩, ⟨hq0, hq1⟩, _⟩ := akB_p hak
  obtain ⟨i, rfl⟩ : ∃ i : Nat, a = (i : Int) := ⟨a.toNat, by omega⟩
  have hi : i < n := by omega
  have hi2 : (i : Int) < (n : Int) := by omega
  have hn60 : (n : Int) ≤ 60 := by have := (isB_p hI).1; omega
  have hmk := mkI n (by omega)
  simp only [Int.toNat_natCast]
  have HRB : Hid (rkB ouB n c (i : Int) q d = ouB n c d i q ∧ rkM ouB n c (i : Int) q d = if ouB n c d i q = true then n else 0) := hid (by
    have e : rkB ouB n c (i : Int) q d = ouB n c d i q := by unfold rkB; rw [hak, Int.toNat_natCast]; rfl
    exact ⟨e, by unfold rkM; rw [e]⟩)
  rw [HRB.out.1, HRB.out.2]
  have HMK : Hid (∀ w1 : World, Below w.heap.size w w1 → IB (w1.alloc (.cells (zeros n) 3)) w1.heap.size n z0 ∧ ItS w1.heap.size (w1.alloc (.cells (zeros n) 3)) ad n c) := hid (fun w1 b => ⟨⟨zeros n, CB.new _ _, fun j hj => zeros_get hj⟩, ⟨w, b.size, HR.out, bel_on b ((Below.refl _ _).alloc (Nat.le_refl _) _)⟩⟩)
  have HEND : Hid (∀ w1 W : World, Below w.heap.size w w1 → Bt w1.heap.size (w1.alloc (.cells (zeros n) 3)) W → Below w.heap.size w W) := hid (fun w1 W b k => (bel_on b ((Below.refl _ _).alloc (Nat.le_refl _) _)).trans (k.2.mono b.size))
  clear hak ha0 ha1 HRB HFA
  have HII : Hid (isB n c = true) := hI
  obtain ⟨g1, g2, g3, g4, g5⟩ := isB_it hI hi
  obtain ⟨kb, off, rfl, hkb⟩ := HR.out.addr (by omega)
  obtain ⟨ra, rc, sa, sc, _, _, c0, c1, c2, c3, c4, r5, r6⟩ := HR.out.cell hi
  have HPC : Hid (∀ j, j < cnN (c i).alsz d (c i).alsn → PG n (cnC (c i).alsz d (c i).alsn j) ∧ (i : Int) + 1 ≤ (cnC (c i).alsz d (c i).alsn j).item ∧ (cnC (c i).alsz d (c i).alsn j).scr = 0) := hid (cnC_all (P := fun p => PG n p ∧ (i : Int) + 1 ≤ p.item ∧ p.scr = 0) _ (fun j hj => ⟨(g5 j hj).1, (g5 j hj).2.1, (g5 j hj).2.2.1⟩))
  have HIC : Hid (∀ W, Below w.heap.size w W → W.cell? ⟨kb, off + i * 5, none⟩ = some (.string (c i).name) ∧ W.cell? ⟨kb, off + i * 5 + 1, none⟩ = some (.int .i64 (c i).batch) ∧ W.cell? ⟨kb, off + i * 5 + 2, none⟩ = some (.bool (c i).pha) ∧ W.cell? ⟨kb, off + i * 5 + 3, none⟩ = some (.slice ra (c i).parn rc) ∧ W.cell? ⟨kb, off + i * 5 + 4, none⟩ = some (.slice sa (c i).alsn sc)) := hid (fun W b => ⟨keep_cell b c0, keep_cell b c1, keep_cell b c2, keep_cell b c3, keep_cell b c4⟩)
  have HCO : Hid (∀ W, Below w.heap.size w W → Calls Try.prog 59 #[.slice sa (c i).alsn sc, .int .i64 d] W fun e w' => ∃ ad2 oc, e = .returned (.slice ad2 (cnN (c i).alsz d (c i).alsn) oc) ∧ OwnPA6 w' W.heap.size ad2 (cnN (c i).alsz d (c i).alsn) (cnC (c i).alsz d (c i).alsn) ∧ Below W.heap.size W w') := hid (fun W b => l17Counting_any sa _ sc _ d W (by omega) (r6.below b) (fun j hj => (g5 j hj).1.2.2.2))
  obtain ⟨b0, b1⟩ := bat_bd hq0 g1.1
  have hmd := bat_made hq0 g1.1
  have hmd0 : 0 ≤ bat q (c i).batch * (c i).batch := Int.mul_nonneg b0 (by omega)
  have HBF : Hid (∀ W, Calls Try.prog 95 #[.agg #[.string (c i).name, .int .i64 (c i).batch, .bool (c i).pha, .slice ra (c i).parn rc, .slice sa (c i).alsn sc], .int .i64 q] W fun e w' => e = .returned (.int .i64 (bat q (c i).batch)) ∧ Below W.heap.size W w') := hid (fun W => l17Batches_any _ _ _ _ _ _ _ _ _ q W hq0 hq1 g1.1 g1.2)
  have hN := cnN_le (c i).alsz d (c i).alsn
  have hN30 : (cnN (c i).alsz d (c i).alsn : Int) ≤ 30 := by omega
  unfold ouB ouF brB brF
  rw [show z0 i = 0 from rfl, Int.zero_add]
  have hkw : kb < w.heap.size := cell_lt c0
  clear c0 c1 c2 c3 c4 r5 r6 g2 g3 g4 g5 hN hI
  generalize cnN (c i).alsz d (c i).alsn = N at *
  generalize cnC (c i).alsz d (c i).alsn = C at *
  generalize bat q (c i).batch = NB at *
  generalize (c i).name = nm at HIC HBF
  generalize (c i).batch = ba at *
  generalize (c i).pha = ph at HIC HBF
  generalize (c i).parn = rn at HIC HBF
  generalize (c i).alsn = sn at *
  have hwb : IntKind.i64.wrap (NB * ba) = NB * ba := IntWalk.i64_in _ ⟨by omega, by omega⟩
  have hMD : NB * ba ≤ 2000000 := by omega
  have hb1 : NB ≤ 1000000 := by omega
  have HF2 : Hid (∀ j, 0 ≤ upI z0 i (NB * ba) j ∧ upI z0 i (NB * ba) j ≤ 2000000) := hid (fun j => by
    by_cases e : j = i
    · subst e; rw [upI_eq]; exact ⟨hmd0, hMD⟩
    · rw [upI_ne e]; exact ⟨Int.le_refl _, by show (0 : Int) ≤ _; omega⟩)
  have HOF : Hid (∀ k, k ≤ N → exF (upI z0 i (NB * ba)) NB C k i = NB * ba) := hid (fun k hk => by
    rw [exF_off k (fun j hj => by have := (HPC.out j (by omega)).2.1; omega), upI_eq])
  have HSET : Hid (∀ W : World, ∀ LB : Nat, IB W LB n z0 → IB (W.setCell ⟨LB, i, none⟩ (.int .i64 (NB * ba))) LB n (upI z0 i (NB * ba))) := hid (fun W LB h => h.set hi _)
  generalize upI z0 i (NB * ba) = F0 at HF2 HOF HSET ⊢
  obtain ⟨TV, hTV⟩ : ∃ b, (inB (NB * ba) 0 1000000 && exB F0 NB C N) = b := ⟨_, rfl⟩
  obtain ⟨FR, hFR⟩ : ∃ f, exF F0 NB C N = f := ⟨_, rfl⟩
  rw [hTV, hFR]
  obtain ⟨M, hM⟩ : ∃ m, (if TV = true then n else 0) = m := ⟨_, rfl⟩
  rw [hM]
  have HTV : Hid ((inB (NB * ba) 0 1000000 && exB F0 NB C N) = TV) := hTV
  have HFR : Hid (exF F0 NB C N = FR) := hFR
  have HMM : Hid ((if TV = true then n else 0) = M) := hM
  clear hTV hFR hM hmd
  go_enter Try.func44, Try.ntmps44
  go_wp2_with (first
    | (go_at_call 56; refine (l17Asked_eq _ n cap c (i : Int) q d _ _ h HZ.out HR.out HAK.out).mono ?_; rintro e w1 ⟨rfl, b1⟩; have HB1 : Hid (Below w.heap.size w w1) := b1; clear b1; have HA : Hid (IB (w1.alloc (.cells (zeros n) 3)) w1.heap.size n z0 ∧ ItS w1.heap.size (w1.alloc (.cells (zeros n) 3)) (some ⟨kb, off, none⟩) n c) := hid (HMK.out w1 HB1.out); obtain ⟨k0, k1, k2, k3, k4⟩ := HIC.out _ (HEND.out w1 _ HB1.out (Bt.refl _ _)))
    | (go_at_call 95; refine (HBF.out _).mono ?_; rintro e w2 ⟨rfl, b2⟩; have HB2 : Hid (Below (w1.alloc (.cells (zeros n) 3)).heap.size (w1.alloc (.cells (zeros n) 3)) w2) := b2; have HI2 := hid (HA.out.1.below b2); clear b2; have hLn : kb ≠ w1.heap.size := (by have := HB1.out.size; omega); have HB3 : Hid (Below w.heap.size w w2) := hid (HEND.out w1 w2 HB1.out (Bt.of HB2.out (by have := HA.out.1.lt; omega))); have HB4 : Hid (Bt w1.heap.size (w1.alloc (.cells (zeros n) 3)) (w2.setCell ⟨w1.heap.size, i, none⟩ (.int .i64 (NB * ba)))) := hid ((Bt.of HB2.out (by have := HA.out.1.lt; omega)).set _ _); have m1 := (HIC.out _ HB3.out).2.1; have m4 := (HIC.out _ HB3.out).2.2.2.2; have m5 := (HIC.out _ (HEND.out w1 _ HB1.out HB4.out)).2.2.2.2; have x1 := HI2.out.cell hi; have f1 := HI2.out.fr i; generalize z0 i = A at x1)
    | (go_at_call 59; refine (HCO.out _ (HEND.out w1 _ HB1.out HB4.out)).mono ?_; rintro e w4 ⟨ad2, oc, rfl, o4, b4⟩; have H1 : Hid (exB F0 NB C 0 = true ∧ IB w4 w1.heap.size n (exF F0 NB C 0) ∧ OwnPA6 w4 (w2.setCell ⟨w1.heap.size, i, none⟩ (.int .i64 (NB * ba))).heap.size ad2 N C ∧ Bt w1.heap.size (w1.alloc (.cells (zeros n) 3)) w4) := hid ⟨rfl, (HSET.out _ _ HI2.out).below b4, o4, HB4.out.on b4 (by have := (HSET.out _ _ HI2.out).lt; omega)⟩; have hLO : w1.heap.size < (w2.setCell ⟨w1.heap.size, i, none⟩ (.int .i64 (NB * ba))).heap.size := (HSET.out _ _ HI2.out).lt; clear o4 b4))
  have HIT : Hid (∀ W, Bt w1.heap.size (w1.alloc (.cells (zeros n) 3)) W → Below w.heap.size w W) := hid (fun W b => HEND.out w1 W HB1.out b)
  have HLW : Hid (w.heap.size ≤ w1.heap.size) := HB1.out.size
  clear HMK HEND HB1 HSET x1 f1 HB2 HB3 HB4 HI2 k0 k1 k2 k3 k4 m1 m4 m5 HA HIC HCO HBF
  generalize (w2.setCell ⟨w1.heap.size, i, none⟩ (.int .i64 (NB * ba))).heap.size = LO at H1 hLO
  generalize w1.alloc (.cells (zeros n) 3) = WA at H1 HIT
  generalize w1.heap.size = LB at H1 HIT HLW hLn hLO ⊢
  go_loopw [13] (fun v wr => ∃ (k : Nat), k ≤ N ∧ v = .int .i64 (k : Int) ∧ Hid (exB F0 NB C k = true ∧ IB wr LB n (exF F0 NB C k) ∧ OwnPA6 wr LO ad2 N C ∧ Bt LB WA wr)) (fun v _ => N - (intOf v).toNat)
  case atStart => exact ⟨0, Nat.zero_le _, rfl, H1⟩
  case round =>
    clear H1
    obtain ⟨p, hp, rfl, HH⟩ := hrel
    obtain ⟨wo, rfl⟩ : ∃ x, x = wr := ⟨wr, rfl⟩
    by_cases hlt : p < N
    · have hlt2 : (p : Int) < (N : Int) := by omega
      obtain ⟨kc, of2, e2, hkc⟩ := HH.out.2.2.1.row.addr (by omega)
      have hkw2 : LO ≤ kc := by
        rcases HH.out.2.2.1 with h0 | ⟨g, cs, e, h1, _⟩
        · omega
        · rw [e] at e2; cases e2; exact h1
      subst e2
      obtain ⟨c0, c1, c2, c3, c4, c5⟩ := HH.out.2.2.1.row.cell hlt
      obtain ⟨hpq, hpi, hps⟩ := HPC.out p hlt
      have hfq := exF_q2 HF2.out p HH.out.1
      have hST : Hid (exB F0 NB C (p + 1) = stB (exF F0 NB C p) NB (C p)) := hid (by show (exB F0 NB C p && _) = _; rw [HH.out.1]; rfl)
      have hEX : Hid (exF F0 NB C (p + 1) = upI (exF F0 NB C p) (C p).item.toNat (exF F0 NB C p (C p).item.toNat + tk NB (C p))) := rfl
      have HSP : Hid (∀ m, p + 1 ≤ m → exB F0 NB C (p + 1) = false → exB F0 NB C m = false) := hid (fun m h1 h2 => exB_mono m h1 h2)
      have HFQ : Hid (∀ j, 0 ≤ exF F0 NB C p j ∧ exF F0 NB C p j ≤ 2000000) := hfq
      have HMo : Hid (IB wo LB n (exF F0 NB C p)) := HH.out.2.1
      obtain ⟨hi0, hi1⟩ := hpq.1
      have hqt := hpq.2.1
      obtain ⟨P, hP⟩ : ∃ P : Nat, (C p).item = (P : Int) := ⟨(C p).item.toNat, by omega⟩
      have hq0 : 0 ≤ NB * (C p).qty := Int.mul_nonneg b0 (by omega)
      have hq1 : NB * (C p).qty ≤ 1000000 * 1000000 := by
        have e1 : NB * (C p).qty ≤ 1000000 * (C p).qty := Int.mul_le_mul_of_nonneg_right hb1 (by omega)
        have e2 : (1000000 : Int) * (C p).qty ≤ 1000000 * 1000000 := Int.mul_le_mul_of_nonneg_left hpq.2.1.2 (by omega)
        omega
      have HTK : Hid (inB (NB * (C p).qty) 0 1000000 = true → tk NB (C p) = NB * (C p).qty) := hid (fun h => tk_scr hq0 (inB_t h).2 hps)
      unfold stB at hST
      rw [hP] at c0 hi1 hEX hST
      simp only [Int.toNat_natCast] at hEX hST
      have hPn : P < n := by omega
      have hPn2 : (P : Int) < (n : Int) := by omega
      generalize exF F0 NB C p = g at hEX hST HFQ HMo
      clear hi0 hi1 hpq hfq hP hqt hpi hps
      generalize tk NB (C p) = T at hEX hST HTK
      generalize (C p).qty = qt at c1 hST HTK hq0 hq1
      have hwq : IntKind.i64.wrap (NB * qt) = NB * qt := IntWalk.i64_in _ ⟨by omega, by omega⟩
      have hA := HFQ.out P
      have ca := HMo.out.cell hPn
      obtain ⟨A, hAe⟩ : ∃ A, g P = A := ⟨_, rfl⟩
      rw [hAe] at hA ca hEX hST
      have hwT : IntKind.i64.wrap (A + NB * qt) = A + NB * qt := IntWalk.i64_in _ ⟨by omega, by omega⟩
      have HQ2 : Hid (OwnPA6 wo LO (some ⟨kc, of2, none⟩) N C ∧ Bt LB WA wo) := hid ⟨HH.out.2.2.1, HH.out.2.2.2⟩
      clear HH hAe hA c2 c3 c4 c5
      have nB : kc ≠ LB := by omega
      have fa := HMo.out.fr P
      have HX : Hid (wo.drew.cell? ⟨kc, of2 + p * 6, none⟩ = some (.int .i64 (P : Int)) ∧ wo.drew.cell? ⟨kc, of2 + p * 6 + 1, none⟩ = some (.int .i64 qt)) := ⟨c0, c1⟩
      have HY : Hid ((wo.setCell ⟨LB, P, none⟩ (.int .i64 (A + NB * qt))).drew.cell? ⟨kc, of2 + p * 6, none⟩ = some (.int .i64 (P : Int)) ∧ (wo.setCell ⟨LB, P, none⟩ (.int .i64 (A + NB * qt))).drew.cell? ⟨kc, of2 + p * 6 + 1, none⟩ = some (.int .i64 qt)) := hid ⟨cell_oth nB c0, cell_oth nB c1⟩
      have HCE : Hid (wo.drew.cell? ⟨LB, P, none⟩ = some (.int .i64 A)) := ca
      go_wp2
      clear c0 c1 ca
      have HY2 := HY
      refine wp_region_noPanic ?_
      refine wp_region_held_drew (S := fun w' => w'.cell? ⟨kc, of2 + p * 6, none⟩ = some (.int .i64 (P : Int)) ∧ w'.cell? ⟨kc, of2 + p * 6 + 1, none⟩ = some (.int .i64 qt)) (by kernel_rfl) (by exact HX.out) (fun hHeld => ?_)
      refine wpAnyH_take (i := 0) (oi := { dst := some 53, op := Go.Op.move (Go.Operand.tmp 10), type := 24, pos := "l17_make.go:142", after := #[], guard := none }) (v := ?_) rfl (by kernel_rfl) (by kernel_rfl) (by kernel_rfl) (fun _ _ _ h => h) (Or.inl ⟨by rfl, ?_⟩) (by assumption) ?_
      rotate_left
      · (intro w hSw; (try dsimp only at hSw); go_simp <;> try with_reducible rfl)
      try simp only [Act.put, List.setIfInBounds_toArray, List.set_cons_zero, List.set_cons_succ]
      refine wpAnyH_take (i := 1) (oi := { dst := some 54, op := Go.Op.move (Go.Operand.tmp 12), type := 29, pos := "l17_make.go:142", after := #[], guard := none }) (v := ?_) rfl (by kernel_rfl) (by kernel_rfl) (by kernel_rfl) (fun _ _ _ h => h) (Or.inl ⟨by rfl, ?_⟩) (by assumption) ?_
      rotate_left
      · (intro w hSw; (try dsimp only at hSw); go_simp <;> try with_reducible rfl)
      try simp only [Act.put, List.setIfInBounds_toArray, List.set_cons_zero, List.set_cons_succ]
      refine wpAnyH_take (i := 2) (oi := { dst := some 55, op := Go.Op.move (Go.Operand.tmp 13), type := 3, pos := "l17_make.go:142", after := #[], guard := none }) (v := ?_) rfl (by kernel_rfl) (by kernel_rfl) (by kernel_rfl) (fun _ _ _ h => h) (Or.inl ⟨by rfl, ?_⟩) (by assumption) ?_
      rotate_left
      · (intro w hSw; (try dsimp only at hSw); go_simp <;> try with_reducible rfl)
      try simp only [Act.put, List.setIfInBounds_toArray, List.set_cons_zero, List.set_cons_succ]
      refine wpAnyH_take (i := 3) (oi := { dst := some 56, op := Go.Op.indexAddr 29 (Go.Operand.tmp 54) (Go.Operand.tmp 55), type := 0, pos := "l17_make.go:142", after := #[{ on := 1, ground := Go.Ground.data }, { on := 2, ground := Go.Ground.data }], guard := none }) (v := ?_) rfl (by kernel_rfl) (by kernel_rfl) (by kernel_rfl) (fun _ _ _ h => h) (Or.inl ⟨by rfl, ?_⟩) (by assumption) ?_
      rotate_left
      · (intro w hSw; (try dsimp only at hSw); go_simp <;> try with_reducible rfl)
      try simp only [Act.put, List.setIfInBounds_toArray, List.set_cons_zero, List.set_cons_succ]
      refine wpAnyH_take (i := 4) (oi := { dst := some 57, op := Go.Op.fieldAddr 28 (Go.Operand.tmp 56) 0, type := 0, pos := "l17_make.go:142", after := #[{ on := 3, ground := Go.Ground.data }], guard := none }) (v := ?_) rfl (by kernel_rfl) (by kernel_rfl) (by kernel_rfl) (fun _ _ _ h => h) (Or.inl ⟨by rfl, ?_⟩) (by assumption) ?_
      rotate_left
      · (intro w hSw; (try dsimp only at hSw); go_simp <;> try with_reducible rfl)
      try simp only [Act.put, List.setIfInBounds_toArray, List.set_cons_zero, List.set_cons_succ]
      refine wpAnyH_take (i := 5) (oi := { dst := some 58, op := Go.Op.load 3 (Go.Operand.tmp 57), type := 3, pos := "l17_make.go:142", after := #[{ on := 4, ground := Go.Ground.data }], guard := none }) (v := ?_) rfl (by kernel_rfl) (by kernel_rfl) (by kernel_rfl) (fun _ _ _ h => h) (Or.inl ⟨by rfl, ?_⟩) (by assumption) ?_
      rotate_left
      · (intro w hSw; (try dsimp only at hSw); go_simp <;> try with_reducible rfl)
      try simp only [Act.put, List.setIfInBounds_toArray, List.set_cons_zero, List.set_cons_succ]
      refine wpAnyH_take (i := 6) (oi := { dst := some 59, op := Go.Op.move (Go.Operand.tmp 10), type := 24, pos := "l17_make.go:142", after := #[], guard := none }) (v := ?_) rfl (by kernel_rfl) (by kernel_rfl) (by kernel_rfl) (fun _ _ _ h => h) (Or.inl ⟨by rfl, ?_⟩) (by assumption) ?_
      rotate_left
      · (intro w hSw; (try dsimp only at hSw); go_simp <;> try with_reducible rfl)
      try simp only [Act.put, List.setIfInBounds_toArray, List.set_cons_zero, List.set_cons_succ]
      refine wpAnyH_take (i := 7) (oi := { dst := some 60, op := Go.Op.move (Go.Operand.tmp 12), type := 29, pos := "l17_make.go:142", after := #[], guard := none }) (v := ?_) rfl (by kernel_rfl) (by kernel_rfl) (by kernel_rfl) (fun _ _ _ h => h) (Or.inl ⟨by rfl, ?_⟩) (by assumption) ?_
      rotate_left
      · (intro w hSw; (try dsimp only at hSw); go_simp <;> try with_reducible rfl)
      try simp only [Act.put, List.setIfInBounds_toArray, List.set_cons_zero, List.set_cons_succ]
      refine wpAnyH_take (i := 8) (oi := { dst := some 61, op := Go.Op.move (Go.Operand.tmp 13), type := 3, pos := "l17_make.go:142", after := #[], guard := none }) (v := ?_) rfl (by kernel_rfl) (by kernel_rfl) (by kernel_rfl) (fun _ _ _ h => h) (Or.inl ⟨by rfl, ?_⟩) (by assumption) ?_
      rotate_left
      · (intro w hSw; (try dsimp only at hSw); go_simp <;> try with_reducible rfl)
      try simp only [Act.put, List.setIfInBounds_toArray, List.set_cons_zero, List.set_cons_succ]
      refine wpAnyH_take (i := 9) (oi := { dst := some 62, op := Go.Op.indexAddr 29 (Go.Operand.tmp 60) (Go.Operand.tmp 61), type := 0, pos := "l17_make.go:142", after := #[{ on := 7, ground := Go.Ground.data }, { on := 8, ground := Go.Ground.data }], guard := none }) (v := ?_) rfl (by kernel_rfl) (by kernel_rfl) (by kernel_rfl) (fun _ _ _ h => h) (Or.inl ⟨by rfl, ?_⟩) (by assumption) ?_
      rotate_left
      · (intro w hSw; (try dsimp only at hSw); go_simp <;> try with_reducible rfl)
      try simp only [Act.put, List.setIfInBounds_toArray, List.set_cons_zero, List.set_cons_succ]
      refine wpAnyH_take (i := 10) (oi := { dst := some 63, op := Go.Op.fieldAddr 28 (Go.Operand.tmp 62) 0, type := 0, pos := "l17_make.go:142", after := #[{ on := 9, ground := Go.Ground.data }], guard := none }) (v := ?_) rfl (by kernel_rfl) (by kernel_rfl) (by kernel_rfl) (fun _ _ _ h => h) (Or.inl ⟨by rfl, ?_⟩) (by assumption) ?_
      rotate_left
      · (intro w hSw; (try dsimp only at hSw); go_simp <;> try with_reducible rfl)
      try simp only [Act.put, List.setIfInBounds_toArray, List.set_cons_zero, List.set_cons_succ]
      refine wpAnyH_take (i := 11) (oi := { dst := some 64, op := Go.Op.load 3 (Go.Operand.tmp 63), type := 3, pos := "l17_make.go:142", after := #[{ on := 10, ground := Go.Ground.data }], guard := none }) (v := ?_) rfl (by kernel_rfl) (by kernel_rfl) (by kernel_rfl) (fun _ _ _ h => h) (Or.inl ⟨by rfl, ?_⟩) (by assumption) ?_
      rotate_left
      · (intro w hSw; (try dsimp only at hSw); go_simp <;> try with_reducible rfl)
      try simp only [Act.put, List.setIfInBounds_toArray, List.set_cons_zero, List.set_cons_succ]
      refine wpAnyH_take (i := 12) (oi := { dst := some 65, op := Go.Op.indexAddr 24 (Go.Operand.tmp 59) (Go.Operand.tmp 64), type := 0, pos := "l17_make.go:142", after := #[{ on := 6, ground := Go.Ground.data }, { on := 11, ground := Go.Ground.data }], guard := none }) (v := ?_) rfl (by kernel_rfl) (by kernel_rfl) (by kernel_rfl) (fun _ _ _ h => h) (Or.inl ⟨by rfl, ?_⟩) (by assumption) ?_
      rotate_left
      · (intro w hSw; (try dsimp only at hSw); go_simp <;> try with_reducible rfl)
      try simp only [Act.put, List.setIfInBounds_toArray, List.set_cons_zero, List.set_cons_succ]
      refine wpAnyH_take (i := 14) (oi := { dst := some 67, op := Go.Op.move (Go.Operand.tmp 11), type := 3, pos := "l17_make.go:142", after := #[], guard := none }) (v := ?_) rfl (by kernel_rfl) (by kernel_rfl) (by kernel_rfl) (fun _ _ _ h => h) (Or.inl ⟨by rfl, ?_⟩) (by assumption) ?_
      rotate_left
      · (intro w hSw; (try dsimp only at hSw); go_simp <;> try with_reducible rfl)
      try simp only [Act.put, List.setIfInBounds_toArray, List.set_cons_zero, List.set_cons_succ]
      refine wpAnyH_take (i := 15) (oi := { dst := some 68, op := Go.Op.move (Go.Operand.tmp 12), type := 29, pos := "l17_make.go:142", after := #[], guard := none }) (v := ?_) rfl (by kernel_rfl) (by kernel_rfl) (by kernel_rfl) (fun _ _ _ h => h) (Or.inl ⟨by rfl, ?_⟩) (by assumption) ?_
      rotate_left
      · (intro w hSw; (try dsimp only at hSw); go_simp <;> try with_reducible rfl)
      try simp only [Act.put, List.setIfInBounds_toArray, List.set_cons_zero, List.set_cons_succ]
      refine wpAnyH_take (i := 16) (oi := { dst := some 69, op := Go.Op.move (Go.Operand.tmp 13), type := 3, pos := "l17_make.go:142", after := #[], guard := none }) (v := ?_) rfl (by kernel_rfl) (by kernel_rfl) (by kernel_rfl) (fun _ _ _ h => h) (Or.inl ⟨by rfl, ?_⟩) (by assumption) ?_
      rotate_left
      · (intro w hSw; (try dsimp only at hSw); go_simp <;> try with_reducible rfl)
      try simp only [Act.put, List.setIfInBounds_toArray, List.set_cons_zero, List.set_cons_succ]
      refine wpAnyH_take (i := 17) (oi := { dst := some 70, op := Go.Op.indexAddr 29 (Go.Operand.tmp 68) (Go.Operand.tmp 69), type := 0, pos := "l17_make.go:142", after := #[{ on := 15, ground := Go.Ground.data }, { on := 16, ground := Go.Ground.data }], guard := none }) (v := ?_) rfl (by kernel_rfl) (by kernel_rfl) (by kernel_rfl) (fun _ _ _ h => h) (Or.inl ⟨by rfl, ?_⟩) (by assumption) ?_
      rotate_left
      · (intro w hSw; (try dsimp only at hSw); go_simp <;> try with_reducible rfl)
      try simp only [Act.put, List.setIfInBounds_toArray, List.set_cons_zero, List.set_cons_succ]
      refine wpAnyH_take (i := 18) (oi := { dst := some 71, op := Go.Op.fieldAddr 28 (Go.Operand.tmp 70) 1, type := 0, pos := "l17_make.go:142", after := #[{ on := 17, ground := Go.Ground.data }], guard := none }) (v := ?_) rfl (by kernel_rfl) (by kernel_rfl) (by kernel_rfl) (fun _ _ _ h => h) (Or.inl ⟨by rfl, ?_⟩) (by assumption) ?_
      rotate_left
      · (intro w hSw; (try dsimp only at hSw); go_simp <;> try with_reducible rfl)
      try simp only [Act.put, List.setIfInBounds_toArray, List.set_cons_zero, List.set_cons_succ]
      refine wpAnyH_take (i := 19) (oi := { dst := some 72, op := Go.Op.load 3 (Go.Operand.tmp 71), type := 3, pos := "l17_make.go:142", after := #[{ on := 18, ground := Go.Ground.data }], guard := none }) (v := ?_) rfl (by kernel_rfl) (by kernel_rfl) (by kernel_rfl) (fun _ _ _ h => h) (Or.inl ⟨by rfl, ?_⟩) (by assumption) ?_
      rotate_left
      · (intro w hSw; (try dsimp only at hSw); go_simp <;> try with_reducible rfl)
      try simp only [Act.put, List.setIfInBounds_toArray, List.set_cons_zero, List.set_cons_succ]
      refine wpAnyH_take (i := 20) (oi := { dst := some 73, op := Go.Op.binOp Go.BinOp.mul 3 (Go.Operand.tmp 67) (Go.Operand.tmp 72) 3, type := 3, pos := "l17_make.go:142", after := #[{ on := 14, ground := Go.Ground.data }, { on := 19, ground := Go.Ground.data }], guard := none }) (v := ?_) rfl (by kernel_rfl) (by kernel_rfl) (by kernel_rfl) (fun _ _ _ h => h) (Or.inl ⟨by rfl, ?_⟩) (by assumption) ?_
      rotate_left
      · (intro w hSw; (try dsimp only at hSw); go_simp <;> try with_reducible rfl)
      try simp only [Act.put, List.setIfInBounds_toArray, List.set_cons_zero, List.set_cons_succ]
      refine wpAnyH_ready (rs := [13]) (by kernel_rfl) (by simp) ?_
      refine AllReadyH.cons (o := { dst := some 66, op := Go.Op.load 3 (Go.Operand.tmp 65), type := 3, pos := "l17_make.go:142", after := #[{ on := 12, ground := Go.Ground.data }], guard := none }) rfl (fun K hK => ?_) (AllReadyH.nil)
      have hce := HCE.out
      go_simp
      refine hK.out _ _ (by exact HX.out) (fun hHeld => ?_)
      clear hK K hce
      try simp only [Act.put, List.setIfInBounds_toArray, List.set_cons_zero, List.set_cons_succ]
      refine wpAnyH_take (i := 21) (oi := { dst := some 74, op := Go.Op.binOp Go.BinOp.add 3 (Go.Operand.tmp 66) (Go.Operand.tmp 73) 3, type := 3, pos := "l17_make.go:142", after := #[{ on := 13, ground := Go.Ground.data }, { on := 20, ground := Go.Ground.data }], guard := none }) (v := ?_) rfl (by kernel_rfl) (by kernel_rfl) (by kernel_rfl) (fun _ _ _ h => h) (Or.inl ⟨by rfl, ?_⟩) (by assumption) ?_
      rotate_left
      · (intro w hSw; (try dsimp only at hSw); go_simp <;> try with_reducible rfl)
      try simp only [Act.put, List.setIfInBounds_toArray, List.set_cons_zero, List.set_cons_succ]
      refine wpAnyH_take (i := 22) (oi := { dst := some 75, op := Go.Op.indexAddr 24 (Go.Operand.tmp 53) (Go.Operand.tmp 58), type := 0, pos := "l17_make.go:142", after := #[{ on := 0, ground := Go.Ground.data }, { on := 5, ground := Go.Ground.data }, { on := 0, ground := Go.Ground.phase }, { on := 1, ground := Go.Ground.phase }, { on := 2, ground := Go.Ground.phase }, { on := 3, ground := Go.Ground.phase }, { on := 4, ground := Go.Ground.phase }, { on := 5, ground := Go.Ground.phase }, { on := 6, ground := Go.Ground.phase }, { on := 7, ground := Go.Ground.phase }, { on := 8, ground := Go.Ground.phase }, { on := 9, ground := Go.Ground.phase }, { on := 10, ground := Go.Ground.phase }, { on := 11, ground := Go.Ground.phase }, { on := 12, ground := Go.Ground.phase }, { on := 13, ground := Go.Ground.phase }, { on := 14, ground := Go.Ground.phase }, { on := 15, ground := Go.Ground.phase }, { on := 16, ground := Go.Ground.phase }, { on := 17, ground := Go.Ground.phase }, { on := 18, ground := Go.Ground.phase }, { on := 19, ground := Go.Ground.phase }, { on := 20, ground := Go.Ground.phase }, { on := 21, ground := Go.Ground.phase }], guard := none }) (v := ?_) rfl (by kernel_rfl) (by kernel_rfl) (by kernel_rfl) (fun _ _ _ h => h) (Or.inl ⟨by rfl, ?_⟩) (by assumption) ?_
      rotate_left
      · (intro w hSw; (try dsimp only at hSw); go_simp <;> try with_reducible rfl)
      try simp only [Act.put, List.setIfInBounds_toArray, List.set_cons_zero, List.set_cons_succ]
      refine wpAnyH_ready (rs := [23]) (by kernel_rfl) (by simp) ?_
      refine AllReadyH.cons (o := { dst := none, op := Go.Op.store 3 (Go.Operand.tmp 75) (Go.Operand.tmp 74), type := 0, pos := "l17_make.go:142", after := #[{ on := 22, ground := Go.Ground.data }, { on := 21, ground := Go.Ground.data }, { on := 0, ground := Go.Ground.phase }, { on := 1, ground := Go.Ground.phase }, { on := 2, ground := Go.Ground.phase }, { on := 3, ground := Go.Ground.phase }, { on := 4, ground := Go.Ground.phase }, { on := 5, ground := Go.Ground.phase }, { on := 6, ground := Go.Ground.phase }, { on := 7, ground := Go.Ground.phase }, { on := 8, ground := Go.Ground.phase }, { on := 9, ground := Go.Ground.phase }, { on := 10, ground := Go.Ground.phase }, { on := 11, ground := Go.Ground.phase }, { on := 12, ground := Go.Ground.phase }, { on := 13, ground := Go.Ground.phase }, { on := 14, ground := Go.Ground.phase }, { on := 15, ground := Go.Ground.phase }, { on := 16, ground := Go.Ground.phase }, { on := 17, ground := Go.Ground.phase }, { on := 18, ground := Go.Ground.phase }, { on := 19, ground := Go.Ground.phase }, { on := 20, ground := Go.Ground.phase }, { on := 21, ground := Go.Ground.phase }], guard := none }) rfl (fun K hK => ?_) (AllReadyH.nil)
      have hce := HCE.out
      go_simp
      refine hK.out _ _ (by exact HY.out) (fun hHeld => ?_)
      clear hK K hce
      try simp only [Act.put, List.setIfInBounds_toArray, List.set_cons_zero, List.set_cons_succ]
      refine wpAnyH_done (by kernel_rfl) ?_ _
      refine NoPanic.normal ?_
      clear hHeld HX HY HCE
      have HN : Hid (IB (wo.setCell ⟨LB, P, none⟩ (.int .i64 (A + NB * qt))).drew LB n (upI g P (A + NB * qt)) ∧ OwnPA6 (wo.setCell ⟨LB, P, none⟩ (.int .i64 (A + NB * qt))).drew LO (some ⟨kc, of2, none⟩) N C ∧ Bt LB WA (wo.setCell ⟨LB, P, none⟩ (.int .i64 (A + NB * qt))).drew ∧ ((wo.setCell ⟨LB, P, none⟩ (.int .i64 (A + NB * qt))).drew.cell? ⟨kc, of2 + p * 6, none⟩ = some (.int .i64 (P : Int)) ∧ (wo.setCell ⟨LB, P, none⟩ (.int .i64 (A + NB * qt))).drew.cell? ⟨kc, of2 + p * 6 + 1, none⟩ = some (.int .i64 qt)) ∧ (wo.setCell ⟨LB, P, none⟩ (.int .i64 (A + NB * qt))).drew.cell? ⟨LB, P, none⟩ = some (.int .i64 (A + NB * qt))) := hid (by
        have e1 : IB (wo.setCell ⟨LB, P, none⟩ (.int .i64 (A + NB * qt))).drew LB n (upI g P (A + NB * qt)) := IB.dr (HMo.out.set hPn _)
        refine ⟨e1, (HQ2.out.1.bt ((Bt.refl _ _).set _ _).drew (by omega)), (HQ2.out.2.set _ _).drew, HY2.out, ?_⟩
        have := e1.cell hPn
        rw [upI_eq] at this; exact this)
      clear fa HQ2 HMo HY2
      generalize (wo.setCell ⟨LB, P, none⟩ (.int .i64 (A + NB * qt))).drew = W9 at HN ⊢
      obtain ⟨y0, y3⟩ := HN.out.2.2.2.1
      have y1 := HN.out.2.2.2.2
      cases hx : inB (NB * qt) 0 1000000
      · obtain rfl : TV = false := by rw [← HTV.out, HSP.out N (by omega) (by rw [hST.out, hx]; rfl), Bool.and_false]
        obtain rfl : M = 0 := HMM.out.symm
        have HXX : Hid (inB (NB * qt) 0 1000000 = false) := hx
        have HBW := hid (HIT.out W9 HN.out.2.2.1)
        clear hx
        go_wp2_with (go_at_call 96; refine (l12Qty_eq _ _ _ HXX.out).mono ?_; rintro e w4 ⟨rfl, ew⟩; replace ew := ew.symm; subst ew)
        go_returns
        first | exact ⟨_, ⟨_, rfl⟩, .inl rfl, bel_on HBW.out ((Below.refl _ _).alloc (Nat.le_refl _) _)⟩ | exact ⟨_, _, rfl, .inl rfl, bel_on HBW.out ((Below.refl _ _).alloc (Nat.le_refl _) _)⟩ | exact ⟨_, _, .inl rfl, bel_on HBW.out ((Below.refl _ _).alloc (Nat.le_refl _) _)⟩
      have HXX : Hid (inB (NB * qt) 0 1000000 = true) := hx
      rw [hx, Bool.true_and, HTK.out hx] at hST
      rw [HTK.out hx] at hEX
      clear hx
      obtain ⟨v, hvv⟩ : ∃ v, inB (A + NB * qt) 0 1000000 = v := ⟨_, rfl⟩
      rw [hvv] at hST
      have HV3 : Hid (inB (A + NB * qt) 0 1000000 = v) := hvv
      clear hvv
      have tokq : True := trivial
      cases v
      · obtain rfl : TV = false := by rw [← HTV.out, HSP.out N (by omega) hST.out, Bool.and_false]
        obtain rfl : M = 0 := HMM.out.symm
        have HBW := hid (HIT.out W9 HN.out.2.2.1)
        go_wp2_with (first
          | (go_at_call 96; clear tokq; refine (l12Qty_eq _ _ _ HXX.out).mono ?_; rintro e w4 ⟨rfl, ew⟩; replace ew := ew.symm; subst ew)
          | (go_at_call 96; refine (l12Qty_eq _ _ _ HV3.out).mono ?_; rintro e w6 ⟨rfl, ew⟩; replace ew := ew.symm; subst ew))
        go_returns
        first | exact ⟨_, ⟨_, rfl⟩, .inl rfl, bel_on HBW.out ((Below.refl _ _).alloc (Nat.le_refl _) _)⟩ | exact ⟨_, _, rfl, .inl rfl, bel_on HBW.out ((Below.refl _ _).alloc (Nat.le_refl _) _)⟩ | exact ⟨_, _, .inl rfl, bel_on HBW.out ((Below.refl _ _).alloc (Nat.le_refl _) _)⟩
      · have HG : Hid (exB F0 NB C (p + 1) = true ∧ IB W9 LB n (exF F0 NB C (p + 1)) ∧ OwnPA6 W9 LO (some ⟨kc, of2, none⟩) N C ∧ Bt LB WA W9) := hid ⟨hST.out, by rw [hEX.out]; exact HN.out.1, HN.out.2.1, HN.out.2.2.1⟩
        go_wp2_with (first
          | (go_at_call 96; clear tokq; refine (l12Qty_eq _ _ _ HXX.out).mono ?_; rintro e w4 ⟨rfl, ew⟩; replace ew := ew.symm; subst ew)
          | (go_at_call 96; refine (l12Qty_eq _ _ _ HV3.out).mono ?_; rintro e w6 ⟨rfl, ew⟩; replace ew := ew.symm; subst ew))
        go_roundw
        case rel => exact ⟨p + 1, by omega, by go_num, HG⟩
        case measure => simp [intOf]; omega
    · obtain rfl : p = N := by omega
      have lpp : ¬ (p : Int) < (p : Int) := by omega
      have cz := HH.out.2.1.cell hi
      rw [HOF.out p (Nat.le_refl _)] at cz
      have HBW := hid (HIT.out wo HH.out.2.2.2)
      have hTT := HTV.out
      rw [HH.out.1, Bool.and_true] at hTT
      have HV4 : Hid (inB (NB * ba) 0 1000000 = TV) := hTT
      clear hTT
      cases TV
      · obtain rfl : M = 0 := HMM.out.symm
        go_wp2_with (go_at_call 96; refine (l12Qty_eq _ _ _ HV4.out).mono ?_; rintro e w6 ⟨rfl, ew⟩; replace ew := ew.symm; subst ew)
        go_returns
        first | exact ⟨_, ⟨_, rfl⟩, .inl rfl, bel_on HBW.out ((Below.refl _ _).alloc (Nat.le_refl _) _)⟩ | exact ⟨_, _, rfl, .inl rfl, bel_on HBW.out ((Below.refl _ _).alloc (Nat.le_refl _) _)⟩ | exact ⟨_, _, .inl rfl, bel_on HBW.out ((Below.refl _ _).alloc (Nat.le_refl _) _)⟩
      · obtain rfl : n = M := HMM.out
        obtain rfl : exF F0 NB C p = FR := HFR.out
        have HFI := hid (HH.out.2.1.own HLW.out)
        go_wp2_with (go_at_call 96; refine (l12Qty_eq _ _ _ HV4.out).mono ?_; rintro e w6 ⟨rfl, ew⟩; replace ew := ew.symm; subst ew)
        go_returns
        first | exact ⟨_, ⟨_, rfl⟩, HFI.out, HBW.out⟩ | exact ⟨_, _, rfl, HFI.out, HBW.out⟩
end Go.Proofs.Ytmbdeafpfdeigaa
