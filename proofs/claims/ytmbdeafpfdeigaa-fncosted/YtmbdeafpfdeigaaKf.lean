/- Making, the program: all that there must be. -/
import Derived.Test.YtmbdeafpfdeigaaKe
import Derived.Deep.RegionHeldLaw
import Derived.BigRegion
namespace Go.Proofs.Ytmbdeafpfdeigaa
open Go Go.ChangeShapes Go.WideShapes Go.ChangeAt Go.RowKit
set_option linter.unusedVariables false
set_option linter.unusedSimpArgs false

/-- One place of Explode: what is left, and whether it may be. -/
def epS (c : Nat → IT) (d : Int) (f : Nat → Int) (i : Nat) : Nat → Int := if 0 < cnN (c i).parz d (c i).parn then xpF c d f i (f i) else f
def epO (c : Nat → IT) (d : Int) (f : Nat → Int) (i : Nat) : Bool := if 0 < cnN (c i).parz d (c i).parn then xpB c d f i (f i) else true
def epF (c : Nat → IT) (d : Int) (a : Nat) (f : Nat → Int) : Nat → (Nat → Int)
  | 0 => f
  | k + 1 => epS c d (epF c d a f k) (a + k)
def epB (c : Nat → IT) (d : Int) (a : Nat) (f : Nat → Int) : Nat → Bool
  | 0 => true
  | k + 1 => epB c d a f k && epO c d (epF c d a f k) (a + k)
theorem epF_q {c : Nat → IT} {d : Int} {a : Nat} {f : Nat → Int} (hf : FQ f) : ∀ k, epB c d a f k = true → FQ (epF c d a f k)
  | 0, _ => hf
  | k + 1, h => by
    simp only [epB, Bool.and_eq_true] at h
    have ih := epF_q hf k h.1
    show FQ (epS _ _ _ _)
    have h2 := h.2
    unfold epO at h2
    unfold epS
    split
    · rename_i g; rw [if_pos g] at h2; exact xpF_q (n := 0) ih h2
    · exact ih
theorem epB_mono {c : Nat → IT} {d : Int} {a : Nat} {f : Nat → Int} {k : Nat} : ∀ m, k ≤ m → epB c d a f k = false → epB c d a f m = false
  | 0, h, h1 => by obtain rfl : k = 0 := by omega
                   exact h1
  | m + 1, h, h1 => by
    by_cases e : k = m + 1
    · subst e; exact h1
    · show (epB c d a f m && _) = false
      rw [epB_mono m (by omega) h1]; rfl

set_option maxRecDepth 20000 in
set_option maxHeartbeats 8000000 in
theorem explode_any (ia : Option Addr) (n ic : Nat) (c : Nat → IT) (d : Int) (mb LB : Nat) (f : Nat → Int) (i : Nat) (q : Int) (w : World) (hI : isB n c = true) (hM : MG ia n ic d mb LB f w) (hS : ItS LB w ia n c) (hf : FQ f) (hi : i < n) (q0 : 0 ≤ q) (q1 : q ≤ 1000000) :
    Calls Try.prog 58 #[.pointer (some ⟨mb, 0, none⟩), .int .i64 (i : Int), .int .i64 q] w (ApP2 ia n ic d mb LB (epF c d i (upI f i q) (n - i)) (epB c d i (upI f i q) (n - i)) w) := by
  unfold ApP2
  have HS : Hid (ItS LB w ia n c) := hS
  have HF : Hid (FQ (upI f i q)) := hid (hf.up i q0 q1)
  have hn60 : (n : Int) ≤ 60 := by have := (isB_p hI).1; omega
  have HI : Hid (isB n c = true) := hI
  have hi2 : (i : Int) < (n : Int) := by omega
  have hLB : LB < w.heap.size := hM.q.lt
  have hne : mb ≠ LB := hM.ne
  have m2 : w.cell? ⟨mb, 2, none⟩ = some (.slice (some ⟨LB, 0, none⟩) n n) := (hM.m.cell 2).trans rfl
  have x1 := hM.q.cell hi
  have f1 := hM.q.fr i
  have H1 : Hid (epB c d i (upI f i q) 0 = true ∧ MG ia n ic d mb LB (epF c d i (upI f i q) 0) (w.setCell ⟨LB, i, none⟩ (.int .i64 q)) ∧ Bt LB w (w.setCell ⟨LB, i, none⟩ (.int .i64 q))) := hid ⟨rfl, hM.set hi q, (Bt.refl _ _).set _ _⟩
  clear hM hS hf hI
  generalize f i = A at x1
  generalize upI f i q = g at HF H1 ⊢
  go_enter Try.func58, Try.ntmps58
  go_wp2
  clear m2 x1 f1
  go_loopw [7] (fun v wr => ∃ (k : Nat), i + k ≤ n ∧ v = .int .i64 ((i + k : Nat) : Int) ∧ Hid (epB c d i g k = true ∧ MG ia n ic d mb LB (epF c d i g k) wr ∧ Bt LB w wr)) (fun v _ => n - (intOf v).toNat)
  case atStart => exact ⟨0, by omega, rfl, H1⟩
  case round =>
    clear H1
    obtain ⟨k, hk, rfl, HH⟩ := hrel
    obtain ⟨wo, rfl⟩ : ∃ x, x = wr := ⟨wr, rfl⟩
    have m0 : wo.cell? ⟨mb, 0, none⟩ = some (.slice ia n ic) := (HH.out.2.1.m.cell 0).trans rfl
    obtain ⟨p, hp⟩ : ∃ p, i + k = p := ⟨_, rfl⟩
    have HPP : Hid (i + k = p) := hp
    rw [hp] at hk ⊢
    clear hp
    by_cases hlt : p < n
    · have hlt2 : (p : Int) < (n : Int) := by omega
      have hwo : w.heap.size ≤ wo.heap.size := HH.out.2.2.2.size
      obtain ⟨w0, hw0, hI0, hBw0⟩ := (HS.out.on HH.out.2.2)
      obtain ⟨kb, off, rfl, hkb⟩ := hI0.addr (by omega)
      obtain ⟨ra, rc, sa, sc, _, _, c0, c1, c2, c3, c4, r5, r6⟩ := hI0.cell hlt
      obtain ⟨g1, g2, g3, g4, g5⟩ := isB_it HI.out hlt
      have HFQ : Hid (FQ (epF c d i g k)) := hid (epF_q HF.out k HH.out.1)
      have HNB : Hid (epB c d i g (k + 1) = epO c d (epF c d i g k) p) := hid (by show (epB c d i g k && epO c d (epF c d i g k) (i + k)) = _; rw [HH.out.1, HPP.out]; rfl)
      have HNF : Hid (epF c d i g (k + 1) = epS c d (epF c d i g k) p) := hid (by show epS _ _ _ (i + k) = _; rw [HPP.out])
      have HMO : Hid (epB c d i g (k + 1) = false → epB c d i g (n - i) = false) := hid (fun h => epB_mono _ (by have := HPP.out; omega) h)
      have HAL : Hid (∀ W, Bt LB wo W → (W.cell? ⟨mb, 0, none⟩ = some (.slice (some ⟨kb, off, none⟩) n ic) ∧ W.cell? ⟨mb, 1, none⟩ = some (.int .i64 d)) ∧ (W.cell? ⟨mb, 2, none⟩ = some (.slice (some ⟨LB, 0, none⟩) n n) ∧ W.cell? ⟨kb, off + p * 5, none⟩ = some (.string (c p).name) ∧ W.cell? ⟨kb, off + p * 5 + 1, none⟩ = some (.int .i64 (c p).batch) ∧ W.cell? ⟨kb, off + p * 5 + 2, none⟩ = some (.bool (c p).pha) ∧ W.cell? ⟨kb, off + p * 5 + 3, none⟩ = some (.slice ra (c p).parn rc) ∧ W.cell? ⟨kb, off + p * 5 + 4, none⟩ = some (.slice sa (c p).alsn sc))) := hid (fun W b => ⟨⟨((HH.out.2.1.m.bt b hne).cell 0).trans rfl, ((HH.out.2.1.m.bt b hne).cell 1).trans rfl⟩, ⟨((HH.out.2.1.m.bt b hne).cell 2).trans rfl, keep_cell (hBw0.trans (b.2.mono hw0)) c0, keep_cell (hBw0.trans (b.2.mono hw0)) c1, keep_cell (hBw0.trans (b.2.mono hw0)) c2, keep_cell (hBw0.trans (b.2.mono hw0)) c3, keep_cell (hBw0.trans (b.2.mono hw0)) c4⟩⟩)
      have HMK : Hid (∀ W, Below wo.heap.size wo W → Calls Try.prog 108 #[.agg #[.string (c p).name, .int .i64 (c p).batch, .bool (c p).pha, .slice ra (c p).parn rc, .slice sa (c p).alsn sc], .int .i64 d] W fun e w' => e = .returned (.bool (decide (0 < cnN (c p).parz d (c p).parn))) ∧ Below W.heap.size W w') := hid (fun W b => isMade_any _ _ _ ra _ rc (c p).parz sa _ sc d W (by omega) (r5.below (hBw0.trans (b.mono (by omega)))) (fun j hj => (g4 j hj).1.2.2.2))
      have HXP : Hid (∀ W, Below wo.heap.size wo W → Calls Try.prog 101 #[.pointer (some ⟨mb, 0, none⟩), .int .i64 (p : Int), .int .i64 (epF c d i g k p)] W (ApP2 (some ⟨kb, off, none⟩) n ic d mb LB (xpF c d (epF c d i g k) p (epF c d i g k p)) (xpB c d (epF c d i g k) p (epF c d i g k p)) W)) := hid (fun W b => expand_any _ n ic c d mb LB _ p _ W HI.out (HH.out.2.1.below b) ⟨w0, hw0, hI0, hBw0.trans (b.mono (by omega))⟩ HFQ.out hlt (HFQ.out p).1 (HFQ.out p).2)
      have HMW : Hid (∀ W, Below wo.heap.size wo W → MG (some ⟨kb, off, none⟩) n ic d mb LB (epF c d i g k) W ∧ Bt LB w W ∧ W.cell? ⟨LB, p, none⟩ = some (.int .i64 (epF c d i g k p))) := hid (fun W b => ⟨HH.out.2.1.below b, HH.out.2.2.on b (by omega), (HH.out.2.1.below b).q.cell hlt⟩)
      unfold epO at HNB
      unfold epS at HNF
      clear c0 c1 c2 c3 c4 r5 r6 hI0 g1 g2 g3 g4 g5 HH HFQ hBw0
      generalize xpF c d (epF c d i g k) p (epF c d i g k p) = XF at HNF HXP
      generalize xpB c d (epF c d i g k) p (epF c d i g k p) = XB at HNB HXP
      generalize epF c d i g k p = Q at HXP HMW
      generalize epF c d i g k = G at HNF HMW
      generalize (c p).name = nm at HAL HMK
      generalize (c p).batch = ba at HAL HMK
      generalize (c p).pha = ph at HAL HMK
      have HCN : Hid (∃ N, cnN (c p).parz d (c p).parn = N) := ⟨_, rfl⟩
      obtain ⟨N, hN⟩ := HCN.out
      rw [hN] at HNB HNF HMK
      clear hN HCN
      generalize (c p).parn = rn at HAL HMK
      generalize (c p).alsn = sn at HAL HMK
      by_cases hm : 0 < N
      · have dm : decide (0 < N) = true := decide_eq_true hm
        rw [if_pos hm] at HNB HNF
        rw [dm] at HMK
        clear dm
        go_wp2
        have HA0 := HAL.out wo.drew (Bt.refl _ _).drew
        refine wp_region_noPanic ?_
        refine wp_region_held_drew (S := fun w' => (w'.cell? ⟨mb, 0, none⟩ = some (.slice (some ⟨kb, off, none⟩) n ic) ∧ w'.cell? ⟨mb, 1, none⟩ = some (.int .i64 d)) ∧ (w'.cell? ⟨mb, 2, none⟩ = some (.slice (some ⟨LB, 0, none⟩) n n) ∧ w'.cell? ⟨kb, off + p * 5, none⟩ = some (.string nm) ∧ w'.cell? ⟨kb, off + p * 5 + 1, none⟩ = some (.int .i64 ba) ∧ w'.cell? ⟨kb, off + p * 5 + 2, none⟩ = some (.bool ph) ∧ w'.cell? ⟨kb, off + p * 5 + 3, none⟩ = some (.slice ra rn rc) ∧ w'.cell? ⟨kb, off + p * 5 + 4, none⟩ = some (.slice sa sn sc))) (by kernel_rfl) (by exact HA0) (fun hHeld => ?_)
        clear HA0
        refine wpAnyH_take (i := 0) (oi := { dst := some 25, op := Go.Op.move (Go.Operand.tmp 0), type := 69, pos := "l17_make.go:171", after := #[], guard := none }) (v := ?_) rfl (by kernel_rfl) (by kernel_rfl) (by kernel_rfl) (fun _ _ _ h => h) (Or.inl ⟨by rfl, ?_⟩) (by assumption) ?_
        rotate_left
        · (intro w hSw; (try dsimp only at hSw); go_simp <;> try with_reducible rfl)
        try simp only [Act.put, List.setIfInBounds_toArray, List.set_cons_zero, List.set_cons_succ]
        refine wpAnyH_take (i := 1) (oi := { dst := some 26, op := Go.Op.nilCheck (Go.Operand.tmp 25), type := 0, pos := "l17_make.go:171", after := #[{ on := 0, ground := Go.Ground.data }], guard := none }) (v := ?_) rfl (by kernel_rfl) (by kernel_rfl) (by kernel_rfl) (fun _ _ _ h => h) (Or.inl ⟨by rfl, ?_⟩) (by assumption) ?_
        rotate_left
        · (intro w hSw; (try dsimp only at hSw); go_simp <;> try with_reducible rfl)
        try simp only [Act.put, List.setIfInBounds_toArray, List.set_cons_zero, List.set_cons_succ]
        refine wpAnyH_take (i := 2) (oi := { dst := some 27, op := Go.Op.fieldAddr 109 (Go.Operand.tmp 26) 0, type := 0, pos := "l17_make.go:171", after := #[{ on := 1, ground := Go.Ground.data }], guard := none }) (v := ?_) rfl (by kernel_rfl) (by kernel_rfl) (by kernel_rfl) (fun _ _ _ h => h) (Or.inl ⟨by rfl, ?_⟩) (by assumption) ?_
        rotate_left
        · (intro w hSw; (try dsimp only at hSw); go_simp <;> try with_reducible rfl)
        try simp only [Act.put, List.setIfInBounds_toArray, List.set_cons_zero, List.set_cons_succ]
        refine wpAnyH_take (i := 3) (oi := { dst := some 28, op := Go.Op.load 32 (Go.Operand.tmp 27), type := 32, pos := "l17_make.go:171", after := #[{ on := 2, ground := Go.Ground.data }], guard := none }) (v := ?_) rfl (by kernel_rfl) (by kernel_rfl) (by kernel_rfl) (fun _ _ _ h => h) (Or.inl ⟨by rfl, ?_⟩) (by assumption) ?_
        rotate_left
        · (intro w hSw; (try dsimp only at hSw); go_simp <;> try with_reducible rfl)
        try simp only [Act.put, List.setIfInBounds_toArray, List.set_cons_zero, List.set_cons_succ]
        refine wpAnyH_take (i := 4) (oi := { dst := some 29, op := Go.Op.move (Go.Operand.tmp 7), type := 3, pos := "l17_make.go:171", after := #[], guard := none }) (v := ?_) rfl (by kernel_rfl) (by kernel_rfl) (by kernel_rfl) (fun _ _ _ h => h) (Or.inl ⟨by rfl, ?_⟩) (by assumption) ?_
        rotate_left
        · (intro w hSw; (try dsimp only at hSw); go_simp <;> try with_reducible rfl)
        try simp only [Act.put, List.setIfInBounds_toArray, List.set_cons_zero, List.set_cons_succ]
        refine wpAnyH_take (i := 5) (oi := { dst := some 30, op := Go.Op.indexAddr 32 (Go.Operand.tmp 28) (Go.Operand.tmp 29), type := 0, pos := "l17_make.go:171", after := #[{ on := 3, ground := Go.Ground.data }, { on := 4, ground := Go.Ground.data }], guard := none }) (v := ?_) rfl (by kernel_rfl) (by kernel_rfl) (by kernel_rfl) (fun _ _ _ h => h) (Or.inl ⟨by rfl, ?_⟩) (by assumption) ?_
        rotate_left
        · (intro w hSw; (try dsimp only at hSw); go_simp <;> try with_reducible rfl)
        try simp only [Act.put, List.setIfInBounds_toArray, List.set_cons_zero, List.set_cons_succ]
        refine wpAnyH_take (i := 6) (oi := { dst := some 31, op := Go.Op.load 31 (Go.Operand.tmp 30), type := 31, pos := "l17_make.go:171", after := #[{ on := 5, ground := Go.Ground.data }], guard := none }) (v := ?_) rfl (by kernel_rfl) (by kernel_rfl) (by kernel_rfl) (fun _ _ _ h => h) (Or.inl ⟨by rfl, ?_⟩) (by assumption) ?_
        rotate_left
        · (intro w hSw; (try dsimp only at hSw); go_simp <;> try with_reducible rfl)
        try simp only [Act.put, List.setIfInBounds_toArray, List.set_cons_zero, List.set_cons_succ]
        refine wpAnyH_take (i := 7) (oi := { dst := some 32, op := Go.Op.move (Go.Operand.tmp 0), type := 69, pos := "l17_make.go:171", after := #[], guard := none }) (v := ?_) rfl (by kernel_rfl) (by kernel_rfl) (by kernel_rfl) (fun _ _ _ h => h) (Or.inl ⟨by rfl, ?_⟩) (by assumption) ?_
        rotate_left
        · (intro w hSw; (try dsimp only at hSw); go_simp <;> try with_reducible rfl)
        try simp only [Act.put, List.setIfInBounds_toArray, List.set_cons_zero, List.set_cons_succ]
        refine wpAnyH_take (i := 8) (oi := { dst := some 33, op := Go.Op.nilCheck (Go.Operand.tmp 32), type := 0, pos := "l17_make.go:171", after := #[{ on := 7, ground := Go.Ground.data }], guard := none }) (v := ?_) rfl (by kernel_rfl) (by kernel_rfl) (by kernel_rfl) (fun _ _ _ h => h) (Or.inl ⟨by rfl, ?_⟩) (by assumption) ?_
        rotate_left
        · (intro w hSw; (try dsimp only at hSw); go_simp <;> try with_reducible rfl)
        try simp only [Act.put, List.setIfInBounds_toArray, List.set_cons_zero, List.set_cons_succ]
        refine wpAnyH_take (i := 9) (oi := { dst := some 34, op := Go.Op.fieldAddr 109 (Go.Operand.tmp 33) 1, type := 0, pos := "l17_make.go:171", after := #[{ on := 8, ground := Go.Ground.data }], guard := none }) (v := ?_) rfl (by kernel_rfl) (by kernel_rfl) (by kernel_rfl) (fun _ _ _ h => h) (Or.inl ⟨by rfl, ?_⟩) (by assumption) ?_
        rotate_left
        · (intro w hSw; (try dsimp only at hSw); go_simp <;> try with_reducible rfl)
        try simp only [Act.put, List.setIfInBounds_toArray, List.set_cons_zero, List.set_cons_succ]
        refine wpAnyH_take (i := 10) (oi := { dst := some 35, op := Go.Op.load 3 (Go.Operand.tmp 34), type := 3, pos := "l17_make.go:171", after := #[{ on := 9, ground := Go.Ground.data }], guard := none }) (v := ?_) rfl (by kernel_rfl) (by kernel_rfl) (by kernel_rfl) (fun _ _ _ h => h) (Or.inl ⟨by rfl, ?_⟩) (by assumption) ?_
        rotate_left
        · (intro w hSw; (try dsimp only at hSw); go_simp <;> try with_reducible rfl)
        try simp only [Act.put, List.setIfInBounds_toArray, List.set_cons_zero, List.set_cons_succ]
        refine wpAnyH_ready (rs := [11]) (by kernel_rfl) (by simp) ?_
        refine AllReadyH.cons (o := { dst := some 36, op := Go.Op.call { callee := Go.Callee.value (Go.Operand.func 108), args := #[Go.Operand.tmp 31, Go.Operand.tmp 35], argTypes := #[31, 3] }, type := 4, pos := "l17_make.go:171", after := #[{ on := 6, ground := Go.Ground.data }, { on := 10, ground := Go.Ground.data }], guard := none }) rfl (fun K hK => ?_) (AllReadyH.nil)
        go_simp
        refine (HMK.out _ (Below.refl _ _).drew).mono ?_
        rintro e w1 ⟨rfl, b1⟩
        have HB1 : Hid (Below wo.heap.size wo w1) := hid (bel_on (Below.refl _ _).drew b1)
        clear b1
        have HA1 := HAL.out w1 (Bt.of HB1.out (by omega))
        first | refine hK.out _ _ (by exact HA1) (fun hHeld => ?_) | (go_wp2_with fail; refine hK.out _ _ (by exact HA1) (fun hHeld => ?_))
        clear hK K
        try simp only [Act.put, List.setIfInBounds_toArray, List.set_cons_zero, List.set_cons_succ]
        clear HA1
        refine wpAnyH_take (i := 12) (oi := { dst := some 37, op := Go.Op.move (Go.Operand.tmp 36), type := 4, pos := "l17_make.go:171", after := #[{ on := 11, ground := Go.Ground.data }, { on := 11, ground := Go.Ground.chain }], guard := none }) (v := ?_) rfl (by kernel_rfl) (by kernel_rfl) (by kernel_rfl) (fun _ _ _ h => h) (Or.inl ⟨by rfl, ?_⟩) (by assumption) ?_
        rotate_left
        · (intro w hSw; (try dsimp only at hSw); go_simp <;> try with_reducible rfl)
        try simp only [Act.put, List.setIfInBounds_toArray, List.set_cons_zero, List.set_cons_succ]
        refine wpAnyH_take (i := 13) (oi := { dst := some 38, op := Go.Op.move (Go.Operand.tmp 0), type := 69, pos := "l17_make.go:171", after := #[{ on := 12, ground := Go.Ground.guard }], guard := some (12, true) }) (v := ?_) rfl (by kernel_rfl) (by kernel_rfl) (by kernel_rfl) (fun _ _ _ h => h) (Or.inl ⟨by rfl, ?_⟩) (by assumption) ?_
        rotate_left
        · (intro w hSw; (try dsimp only at hSw); go_simp <;> try with_reducible rfl)
        try simp only [Act.put, List.setIfInBounds_toArray, List.set_cons_zero, List.set_cons_succ]
        refine wpAnyH_take (i := 14) (oi := { dst := some 39, op := Go.Op.move (Go.Operand.tmp 7), type := 3, pos := "l17_make.go:171", after := #[{ on := 12, ground := Go.Ground.guard }], guard := some (12, true) }) (v := ?_) rfl (by kernel_rfl) (by kernel_rfl) (by kernel_rfl) (fun _ _ _ h => h) (Or.inl ⟨by rfl, ?_⟩) (by assumption) ?_
        rotate_left
        · (intro w hSw; (try dsimp only at hSw); go_simp <;> try with_reducible rfl)
        try simp only [Act.put, List.setIfInBounds_toArray, List.set_cons_zero, List.set_cons_succ]
        refine wpAnyH_take (i := 15) (oi := { dst := some 40, op := Go.Op.move (Go.Operand.tmp 0), type := 69, pos := "l17_make.go:171", after := #[{ on := 12, ground := Go.Ground.guard }], guard := some (12, true) }) (v := ?_) rfl (by kernel_rfl) (by kernel_rfl) (by kernel_rfl) (fun _ _ _ h => h) (Or.inl ⟨by rfl, ?_⟩) (by assumption) ?_
        rotate_left
        · (intro w hSw; (try dsimp only at hSw); go_simp <;> try with_reducible rfl)
        try simp only [Act.put, List.setIfInBounds_toArray, List.set_cons_zero, List.set_cons_succ]
        refine wpAnyH_take (i := 16) (oi := { dst := some 41, op := Go.Op.nilCheck (Go.Operand.tmp 40), type := 0, pos := "l17_make.go:171", after := #[{ on := 15, ground := Go.Ground.data }, { on := 12, ground := Go.Ground.guard }], guard := some (12, true) }) (v := ?_) rfl (by kernel_rfl) (by kernel_rfl) (by kernel_rfl) (fun _ _ _ h => h) (Or.inl ⟨by rfl, ?_⟩) (by assumption) ?_
        rotate_left
        · (intro w hSw; (try dsimp only at hSw); go_simp <;> try with_reducible rfl)
        try simp only [Act.put, List.setIfInBounds_toArray, List.set_cons_zero, List.set_cons_succ]
        refine wpAnyH_take (i := 17) (oi := { dst := some 42, op := Go.Op.fieldAddr 109 (Go.Operand.tmp 41) 2, type := 0, pos := "l17_make.go:171", after := #[{ on := 16, ground := Go.Ground.data }, { on := 12, ground := Go.Ground.guard }], guard := some (12, true) }) (v := ?_) rfl (by kernel_rfl) (by kernel_rfl) (by kernel_rfl) (fun _ _ _ h => h) (Or.inl ⟨by rfl, ?_⟩) (by assumption) ?_
        rotate_left
        · (intro w hSw; (try dsimp only at hSw); go_simp <;> try with_reducible rfl)
        try simp only [Act.put, List.setIfInBounds_toArray, List.set_cons_zero, List.set_cons_succ]
        refine wpAnyH_take (i := 18) (oi := { dst := some 43, op := Go.Op.load 24 (Go.Operand.tmp 42), type := 24, pos := "l17_make.go:171", after := #[{ on := 17, ground := Go.Ground.data }, { on := 12, ground := Go.Ground.guard }], guard := some (12, true) }) (v := ?_) rfl (by kernel_rfl) (by kernel_rfl) (by kernel_rfl) (fun _ _ _ h => h) (Or.inl ⟨by rfl, ?_⟩) (by assumption) ?_
        rotate_left
        · (intro w hSw; (try dsimp only at hSw); go_simp <;> try with_reducible rfl)
        try simp only [Act.put, List.setIfInBounds_toArray, List.set_cons_zero, List.set_cons_succ]
        refine wpAnyH_take (i := 19) (oi := { dst := some 44, op := Go.Op.move (Go.Operand.tmp 7), type := 3, pos := "l17_make.go:171", after := #[{ on := 12, ground := Go.Ground.guard }], guard := some (12, true) }) (v := ?_) rfl (by kernel_rfl) (by kernel_rfl) (by kernel_rfl) (fun _ _ _ h => h) (Or.inl ⟨by rfl, ?_⟩) (by assumption) ?_
        rotate_left
        · (intro w hSw; (try dsimp only at hSw); go_simp <;> try with_reducible rfl)
        try simp only [Act.put, List.setIfInBounds_toArray, List.set_cons_zero, List.set_cons_succ]
        refine wpAnyH_take (i := 20) (oi := { dst := some 45, op := Go.Op.indexAddr 24 (Go.Operand.tmp 43) (Go.Operand.tmp 44), type := 0, pos := "l17_make.go:171", after := #[{ on := 18, ground := Go.Ground.data }, { on := 19, ground := Go.Ground.data }, { on := 12, ground := Go.Ground.guard }], guard := some (12, true) }) (v := ?_) rfl (by kernel_rfl) (by kernel_rfl) (by kernel_rfl) (fun _ _ _ h => h) (Or.inl ⟨by rfl, ?_⟩) (by assumption) ?_
        rotate_left
        · (intro w hSw; (try dsimp only at hSw); go_simp <;> try with_reducible rfl)
        try simp only [Act.put, List.setIfInBounds_toArray, List.set_cons_zero, List.set_cons_succ]
        refine wpAnyH_ready (rs := [21]) (by kernel_rfl) (by simp) ?_
        refine AllReadyH.cons (o := { dst := some 46, op := Go.Op.load 3 (Go.Operand.tmp 45), type := 3, pos := "l17_make.go:171", after := #[{ on := 20, ground := Go.Ground.data }, { on := 12, ground := Go.Ground.guard }], guard := some (12, true) }) rfl (fun K hK => ?_) (AllReadyH.nil)
        have hce := (HMW.out w1 HB1.out).2.2
        have HA1 := HAL.out w1 (Bt.of HB1.out (by omega))
        go_simp
        refine hK.out _ _ (by exact HA1) (fun hHeld => ?_)
        clear hK K hce HA1
        try simp only [Act.put, List.setIfInBounds_toArray, List.set_cons_zero, List.set_cons_succ]
        refine wpAnyH_ready (rs := [22]) (by kernel_rfl) (by simp) ?_
        refine AllReadyH.cons (o := { dst := some 47, op := Go.Op.call { callee := Go.Callee.value (Go.Operand.func 101), args := #[Go.Operand.tmp 38, Go.Operand.tmp 39, Go.Operand.tmp 46], argTypes := #[69, 3, 3] }, type := 4, pos := "l17_make.go:171", after := #[{ on := 13, ground := Go.Ground.data }, { on := 14, ground := Go.Ground.data }, { on := 21, ground := Go.Ground.data }, { on := 12, ground := Go.Ground.chain }, { on := 12, ground := Go.Ground.guard }], guard := some (12, true) }) rfl (fun K hK => ?_) (AllReadyH.nil)
        go_simp
        refine (HXP.out _ HB1.out).mono ?_
        rintro e w2 ⟨rfl, b2, g2⟩
        have HB2 : Hid (Bt LB w w2 ∧ (XB = true → MG (some ⟨kb, off, none⟩) n ic d mb LB XF w2)) := hid ⟨(HMW.out w1 HB1.out).2.1.trans b2, g2⟩
        have HA2 := HAL.out w2 ((Bt.of HB1.out (by omega)).trans b2)
        clear b2 g2
        first | refine hK.out _ _ (by exact HA2) (fun hHeld => ?_) | (go_wp2_with fail; refine hK.out _ _ (by exact HA2) (fun hHeld => ?_))
        clear hK K
        try simp only [Act.put, List.setIfInBounds_toArray, List.set_cons_zero, List.set_cons_succ]
        clear HA2
        refine wpAnyH_take (i := 23) (oi := { dst := some 48, op := Go.Op.unOp Go.UnOp.not 4 (Go.Operand.tmp 47), type := 4, pos := "l17_make.go:171", after := #[{ on := 22, ground := Go.Ground.data }, { on := 12, ground := Go.Ground.guard }], guard := some (12, true) }) (v := ?_) rfl (by kernel_rfl) (by kernel_rfl) (by kernel_rfl) (fun _ _ _ h => h) (Or.inl ⟨by rfl, ?_⟩) (by assumption) ?_
        rotate_left
        · (intro w hSw; (try dsimp only at hSw); go_simp <;> try with_reducible rfl)
        try simp only [Act.put, List.setIfInBounds_toArray, List.set_cons_zero, List.set_cons_succ]
        refine wpAnyH_take (i := 24) (oi := { dst := some 49, op := Go.Op.pick (Go.Operand.tmp 37) (Go.Operand.tmp 48) (Go.Operand.const (Go.Value.bool false)), type := 4, pos := "l17_make.go:171", after := #[{ on := 12, ground := Go.Ground.data }, { on := 23, ground := Go.Ground.data }], guard := none }) (v := ?_) rfl (by kernel_rfl) (by kernel_rfl) (by kernel_rfl) (fun _ _ _ h => h) (Or.inl ⟨by rfl, ?_⟩) (by assumption) ?_
        rotate_left
        · (intro w hSw; (try dsimp only at hSw); go_simp <;> try with_reducible rfl)
        try simp only [Act.put, List.setIfInBounds_toArray, List.set_cons_zero, List.set_cons_succ]
        refine wpAnyH_done (by kernel_rfl) ?_ _
        refine NoPanic.normal ?_
        clear hHeld HAL HMK
        cases XB
        · have HV : Hid (epB c d i g (n - i) = false) := hid (HMO.out HNB.out)
          go_wp2
          go_returns
          refine ⟨ret_bool HV.out.symm, HB2.out.1, fun h => ?_⟩
          rw [HV.out] at h; cases h
        · have HN : Hid (epB c d i g (k + 1) = true ∧ MG (some ⟨kb, off, none⟩) n ic d mb LB (epF c d i g (k + 1)) w2 ∧ Bt LB w w2) := hid ⟨HNB.out, by rw [HNF.out]; exact HB2.out.2 rfl, HB2.out.1⟩
          go_wp2
          go_roundw
          case rel => exact ⟨k + 1, by have := HPP.out; omega, by have := HPP.out; go_num, HN⟩
          case measure => simp [intOf]; omega
      · have dm : decide (0 < N) = false := decide_eq_false hm
        rw [if_neg hm] at HNB HNF
        rw [dm] at HMK
        clear dm HXP
        go_wp2
        have HA0 := HAL.out wo.drew (Bt.refl _ _).drew
        refine wp_region_noPanic ?_
        refine wp_region_held_drew (S := fun w' => (w'.cell? ⟨mb, 0, none⟩ = some (.slice (some ⟨kb, off, none⟩) n ic) ∧ w'.cell? ⟨mb, 1, none⟩ = some (.int .i64 d)) ∧ (w'.cell? ⟨mb, 2, none⟩ = some (.slice (some ⟨LB, 0, none⟩) n n) ∧ w'.cell? ⟨kb, off + p * 5, none⟩ = some (.string nm) ∧ w'.cell? ⟨kb, off + p * 5 + 1, none⟩ = some (.int .i64 ba) ∧ w'.cell? ⟨kb, off + p * 5 + 2, none⟩ = some (.bool ph) ∧ w'.cell? ⟨kb, off + p * 5 + 3, none⟩ = some (.slice ra rn rc) ∧ w'.cell? ⟨kb, off + p * 5 + 4, none⟩ = some (.slice sa sn sc))) (by kernel_rfl) (by exact HA0) (fun hHeld => ?_)
        clear HA0
        refine wpAnyH_take (i := 0) (oi := { dst := some 25, op := Go.Op.move (Go.Operand.tmp 0), type := 69, pos := "l17_make.go:171", after := #[], guard := none }) (v := ?_) rfl (by kernel_rfl) (by kernel_rfl) (by kernel_rfl) (fun _ _ _ h => h) (Or.inl ⟨by rfl, ?_⟩) (by assumption) ?_
        rotate_left
        · (intro w hSw; (try dsimp only at hSw); go_simp <;> try with_reducible rfl)
        try simp only [Act.put, List.setIfInBounds_toArray, List.set_cons_zero, List.set_cons_succ]
        refine wpAnyH_take (i := 1) (oi := { dst := some 26, op := Go.Op.nilCheck (Go.Operand.tmp 25), type := 0, pos := "l17_make.go:171", after := #[{ on := 0, ground := Go.Ground.data }], guard := none }) (v := ?_) rfl (by kernel_rfl) (by kernel_rfl) (by kernel_rfl) (fun _ _ _ h => h) (Or.inl ⟨by rfl, ?_⟩) (by assumption) ?_
        rotate_left
        · (intro w hSw; (try dsimp only at hSw); go_simp <;> try with_reducible rfl)
        try simp only [Act.put, List.setIfInBounds_toArray, List.set_cons_zero, List.set_cons_succ]
        refine wpAnyH_take (i := 2) (oi := { dst := some 27, op := Go.Op.fieldAddr 109 (Go.Operand.tmp 26) 0, type := 0, pos := "l17_make.go:171", after := #[{ on := 1, ground := Go.Ground.data }], guard := none }) (v := ?_) rfl (by kernel_rfl) (by kernel_rfl) (by kernel_rfl) (fun _ _ _ h => h) (Or.inl ⟨by rfl, ?_⟩) (by assumption) ?_
        rotate_left
        · (intro w hSw; (try dsimp only at hSw); go_simp <;> try with_reducible rfl)
        try simp only [Act.put, List.setIfInBounds_toArray, List.set_cons_zero, List.set_cons_succ]
        refine wpAnyH_take (i := 3) (oi := { dst := some 28, op := Go.Op.load 32 (Go.Operand.tmp 27), type := 32, pos := "l17_make.go:171", after := #[{ on := 2, ground := Go.Ground.data }], guard := none }) (v := ?_) rfl (by kernel_rfl) (by kernel_rfl) (by kernel_rfl) (fun _ _ _ h => h) (Or.inl ⟨by rfl, ?_⟩) (by assumption) ?_
        rotate_left
        · (intro w hSw; (try dsimp only at hSw); go_simp <;> try with_reducible rfl)
        try simp only [Act.put, List.setIfInBounds_toArray, List.set_cons_zero, List.set_cons_succ]
        refine wpAnyH_take (i := 4) (oi := { dst := some 29, op := Go.Op.move (Go.Operand.tmp 7), type := 3, pos := "l17_make.go:171", after := #[], guard := none }) (v := ?_) rfl (by kernel_rfl) (by kernel_rfl) (by kernel_rfl) (fun _ _ _ h => h) (Or.inl ⟨by rfl, ?_⟩) (by assumption) ?_
        rotate_left
        · (intro w hSw; (try dsimp only at hSw); go_simp <;> try with_reducible rfl)
        try simp only [Act.put, List.setIfInBounds_toArray, List.set_cons_zero, List.set_cons_succ]
        refine wpAnyH_take (i := 5) (oi := { dst := some 30, op := Go.Op.indexAddr 32 (Go.Operand.tmp 28) (Go.Operand.tmp 29), type := 0, pos := "l17_make.go:171", after := #[{ on := 3, ground := Go.Ground.data }, { on := 4, ground := Go.Ground.data }], guard := none }) (v := ?_) rfl (by kernel_rfl) (by kernel_rfl) (by kernel_rfl) (fun _ _ _ h => h) (Or.inl ⟨by rfl, ?_⟩) (by assumption) ?_
        rotate_left
        · (intro w hSw; (try dsimp only at hSw); go_simp <;> try with_reducible rfl)
        try simp only [Act.put, List.setIfInBounds_toArray, List.set_cons_zero, List.set_cons_succ]
        refine wpAnyH_take (i := 6) (oi := { dst := some 31, op := Go.Op.load 31 (Go.Operand.tmp 30), type := 31, pos := "l17_make.go:171", after := #[{ on := 5, ground := Go.Ground.data }], guard := none }) (v := ?_) rfl (by kernel_rfl) (by kernel_rfl) (by kernel_rfl) (fun _ _ _ h => h) (Or.inl ⟨by rfl, ?_⟩) (by assumption) ?_
        rotate_left
        · (intro w hSw; (try dsimp only at hSw); go_simp <;> try with_reducible rfl)
        try simp only [Act.put, List.setIfInBounds_toArray, List.set_cons_zero, List.set_cons_succ]
        refine wpAnyH_take (i := 7) (oi := { dst := some 32, op := Go.Op.move (Go.Operand.tmp 0), type := 69, pos := "l17_make.go:171", after := #[], guard := none }) (v := ?_) rfl (by kernel_rfl) (by kernel_rfl) (by kernel_rfl) (fun _ _ _ h => h) (Or.inl ⟨by rfl, ?_⟩) (by assumption) ?_
        rotate_left
        · (intro w hSw; (try dsimp only at hSw); go_simp <;> try with_reducible rfl)
        try simp only [Act.put, List.setIfInBounds_toArray, List.set_cons_zero, List.set_cons_succ]
        refine wpAnyH_take (i := 8) (oi := { dst := some 33, op := Go.Op.nilCheck (Go.Operand.tmp 32), type := 0, pos := "l17_make.go:171", after := #[{ on := 7, ground := Go.Ground.data }], guard := none }) (v := ?_) rfl (by kernel_rfl) (by kernel_rfl) (by kernel_rfl) (fun _ _ _ h => h) (Or.inl ⟨by rfl, ?_⟩) (by assumption) ?_
        rotate_left
        · (intro w hSw; (try dsimp only at hSw); go_simp <;> try with_reducible rfl)
        try simp only [Act.put, List.setIfInBounds_toArray, List.set_cons_zero, List.set_cons_succ]
        refine wpAnyH_take (i := 9) (oi := { dst := some 34, op := Go.Op.fieldAddr 109 (Go.Operand.tmp 33) 1, type := 0, pos := "l17_make.go:171", after := #[{ on := 8, ground := Go.Ground.data }], guard := none }) (v := ?_) rfl (by kernel_rfl) (by kernel_rfl) (by kernel_rfl) (fun _ _ _ h => h) (Or.inl ⟨by rfl, ?_⟩) (by assumption) ?_
        rotate_left
        · (intro w hSw; (try dsimp only at hSw); go_simp <;> try with_reducible rfl)
        try simp only [Act.put, List.setIfInBounds_toArray, List.set_cons_zero, List.set_cons_succ]
        refine wpAnyH_take (i := 10) (oi := { dst := some 35, op := Go.Op.load 3 (Go.Operand.tmp 34), type := 3, pos := "l17_make.go:171", after := #[{ on := 9, ground := Go.Ground.data }], guard := none }) (v := ?_) rfl (by kernel_rfl) (by kernel_rfl) (by kernel_rfl) (fun _ _ _ h => h) (Or.inl ⟨by rfl, ?_⟩) (by assumption) ?_
        rotate_left
        · (intro w hSw; (try dsimp only at hSw); go_simp <;> try with_reducible rfl)
        try simp only [Act.put, List.setIfInBounds_toArray, List.set_cons_zero, List.set_cons_succ]
        refine wpAnyH_ready (rs := [11]) (by kernel_rfl) (by simp) ?_
        refine AllReadyH.cons (o := { dst := some 36, op := Go.Op.call { callee := Go.Callee.value (Go.Operand.func 108), args := #[Go.Operand.tmp 31, Go.Operand.tmp 35], argTypes := #[31, 3] }, type := 4, pos := "l17_make.go:171", after := #[{ on := 6, ground := Go.Ground.data }, { on := 10, ground := Go.Ground.data }], guard := none }) rfl (fun K hK => ?_) (AllReadyH.nil)
        go_simp
        refine (HMK.out _ (Below.refl _ _).drew).mono ?_
        rintro e w1 ⟨rfl, b1⟩
        have HB1 : Hid (Below wo.heap.size wo w1) := hid (bel_on (Below.refl _ _).drew b1)
        clear b1
        have HA1 := HAL.out w1 (Bt.of HB1.out (by omega))
        first | refine hK.out _ _ (by exact HA1) (fun hHeld => ?_) | (go_wp2_with fail; refine hK.out _ _ (by exact HA1) (fun hHeld => ?_))
        clear hK K
        try simp only [Act.put, List.setIfInBounds_toArray, List.set_cons_zero, List.set_cons_succ]
        clear HA1
        refine wpAnyH_take (i := 12) (oi := { dst := some 37, op := Go.Op.move (Go.Operand.tmp 36), type := 4, pos := "l17_make.go:171", after := #[{ on := 11, ground := Go.Ground.data }, { on := 11, ground := Go.Ground.chain }], guard := none }) (v := ?_) rfl (by kernel_rfl) (by kernel_rfl) (by kernel_rfl) (fun _ _ _ h => h) (Or.inl ⟨by rfl, ?_⟩) (by assumption) ?_
        rotate_left
        · (intro w hSw; (try dsimp only at hSw); go_simp <;> try with_reducible rfl)
        try simp only [Act.put, List.setIfInBounds_toArray, List.set_cons_zero, List.set_cons_succ]
        refine wpAnyH_take (i := 13) (oi := { dst := some 38, op := Go.Op.move (Go.Operand.tmp 0), type := 69, pos := "l17_make.go:171", after := #[{ on := 12, ground := Go.Ground.guard }], guard := some (12, true) }) (v := undef) rfl (by kernel_rfl) (by kernel_rfl) (by kernel_rfl) (fun _ _ _ h => h) (Or.inr ⟨by rfl, rfl⟩) (by assumption) ?_
        try simp only [Act.put, List.setIfInBounds_toArray, List.set_cons_zero, List.set_cons_succ]
        refine wpAnyH_take (i := 14) (oi := { dst := some 39, op := Go.Op.move (Go.Operand.tmp 7), type := 3, pos := "l17_make.go:171", after := #[{ on := 12, ground := Go.Ground.guard }], guard := some (12, true) }) (v := undef) rfl (by kernel_rfl) (by kernel_rfl) (by kernel_rfl) (fun _ _ _ h => h) (Or.inr ⟨by rfl, rfl⟩) (by assumption) ?_
        try simp only [Act.put, List.setIfInBounds_toArray, List.set_cons_zero, List.set_cons_succ]
        refine wpAnyH_take (i := 15) (oi := { dst := some 40, op := Go.Op.move (Go.Operand.tmp 0), type := 69, pos := "l17_make.go:171", after := #[{ on := 12, ground := Go.Ground.guard }], guard := some (12, true) }) (v := undef) rfl (by kernel_rfl) (by kernel_rfl) (by kernel_rfl) (fun _ _ _ h => h) (Or.inr ⟨by rfl, rfl⟩) (by assumption) ?_
        try simp only [Act.put, List.setIfInBounds_toArray, List.set_cons_zero, List.set_cons_succ]
        refine wpAnyH_take (i := 16) (oi := { dst := some 41, op := Go.Op.nilCheck (Go.Operand.tmp 40), type := 0, pos := "l17_make.go:171", after := #[{ on := 15, ground := Go.Ground.data }, { on := 12, ground := Go.Ground.guard }], guard := some (12, true) }) (v := undef) rfl (by kernel_rfl) (by kernel_rfl) (by kernel_rfl) (fun _ _ _ h => h) (Or.inr ⟨by rfl, rfl⟩) (by assumption) ?_
        try simp only [Act.put, List.setIfInBounds_toArray, List.set_cons_zero, List.set_cons_succ]
        refine wpAnyH_take (i := 17) (oi := { dst := some 42, op := Go.Op.fieldAddr 109 (Go.Operand.tmp 41) 2, type := 0, pos := "l17_make.go:171", after := #[{ on := 16, ground := Go.Ground.data }, { on := 12, ground := Go.Ground.guard }], guard := some (12, true) }) (v := undef) rfl (by kernel_rfl) (by kernel_rfl) (by kernel_rfl) (fun _ _ _ h => h) (Or.inr ⟨by rfl, rfl⟩) (by assumption) ?_
        try simp only [Act.put, List.setIfInBounds_toArray, List.set_cons_zero, List.set_cons_succ]
        refine wpAnyH_take (i := 18) (oi := { dst := some 43, op := Go.Op.load 24 (Go.Operand.tmp 42), type := 24, pos := "l17_make.go:171", after := #[{ on := 17, ground := Go.Ground.data }, { on := 12, ground := Go.Ground.guard }], guard := some (12, true) }) (v := undef) rfl (by kernel_rfl) (by kernel_rfl) (by kernel_rfl) (fun _ _ _ h => h) (Or.inr ⟨by rfl, rfl⟩) (by assumption) ?_
        try simp only [Act.put, List.setIfInBounds_toArray, List.set_cons_zero, List.set_cons_succ]
        refine wpAnyH_take (i := 19) (oi := { dst := some 44, op := Go.Op.move (Go.Operand.tmp 7), type := 3, pos := "l17_make.go:171", after := #[{ on := 12, ground := Go.Ground.guard }], guard := some (12, true) }) (v := undef) rfl (by kernel_rfl) (by kernel_rfl) (by kernel_rfl) (fun _ _ _ h => h) (Or.inr ⟨by rfl, rfl⟩) (by assumption) ?_
        try simp only [Act.put, List.setIfInBounds_toArray, List.set_cons_zero, List.set_cons_succ]
        refine wpAnyH_take (i := 20) (oi := { dst := some 45, op := Go.Op.indexAddr 24 (Go.Operand.tmp 43) (Go.Operand.tmp 44), type := 0, pos := "l17_make.go:171", after := #[{ on := 18, ground := Go.Ground.data }, { on := 19, ground := Go.Ground.data }, { on := 12, ground := Go.Ground.guard }], guard := some (12, true) }) (v := undef) rfl (by kernel_rfl) (by kernel_rfl) (by kernel_rfl) (fun _ _ _ h => h) (Or.inr ⟨by rfl, rfl⟩) (by assumption) ?_
        try simp only [Act.put, List.setIfInBounds_toArray, List.set_cons_zero, List.set_cons_succ]
        refine wpAnyH_take (i := 21) (oi := { dst := some 46, op := Go.Op.load 3 (Go.Operand.tmp 45), type := 3, pos := "l17_make.go:171", after := #[{ on := 20, ground := Go.Ground.data }, { on := 12, ground := Go.Ground.guard }], guard := some (12, true) }) (v := undef) rfl (by kernel_rfl) (by kernel_rfl) (by kernel_rfl) (fun _ _ _ h => h) (Or.inr ⟨by rfl, rfl⟩) (by assumption) ?_
        try simp only [Act.put, List.setIfInBounds_toArray, List.set_cons_zero, List.set_cons_succ]
        refine wpAnyH_take (i := 22) (oi := { dst := some 47, op := Go.Op.call { callee := Go.Callee.value (Go.Operand.func 101), args := #[Go.Operand.tmp 38, Go.Operand.tmp 39, Go.Operand.tmp 46], argTypes := #[69, 3, 3] }, type := 4, pos := "l17_make.go:171", after := #[{ on := 13, ground := Go.Ground.data }, { on := 14, ground := Go.Ground.data }, { on := 21, ground := Go.Ground.data }, { on := 12, ground := Go.Ground.chain }, { on := 12, ground := Go.Ground.guard }], guard := some (12, true) }) (v := undef) rfl (by kernel_rfl) (by kernel_rfl) (by kernel_rfl) (fun _ _ _ h => h) (Or.inr ⟨by rfl, rfl⟩) (by assumption) ?_
        try simp only [Act.put, List.setIfInBounds_toArray, List.set_cons_zero, List.set_cons_succ]
        refine wpAnyH_take (i := 23) (oi := { dst := some 48, op := Go.Op.unOp Go.UnOp.not 4 (Go.Operand.tmp 47), type := 4, pos := "l17_make.go:171", after := #[{ on := 22, ground := Go.Ground.data }, { on := 12, ground := Go.Ground.guard }], guard := some (12, true) }) (v := undef) rfl (by kernel_rfl) (by kernel_rfl) (by kernel_rfl) (fun _ _ _ h => h) (Or.inr ⟨by rfl, rfl⟩) (by assumption) ?_
        try simp only [Act.put, List.setIfInBounds_toArray, List.set_cons_zero, List.set_cons_succ]
        refine wpAnyH_take (i := 24) (oi := { dst := some 49, op := Go.Op.pick (Go.Operand.tmp 37) (Go.Operand.tmp 48) (Go.Operand.const (Go.Value.bool false)), type := 4, pos := "l17_make.go:171", after := #[{ on := 12, ground := Go.Ground.data }, { on := 23, ground := Go.Ground.data }], guard := none }) (v := ?_) rfl (by kernel_rfl) (by kernel_rfl) (by kernel_rfl) (fun _ _ _ h => h) (Or.inl ⟨by rfl, ?_⟩) (by assumption) ?_
        rotate_left
        · (intro w hSw; (try dsimp only at hSw); go_simp <;> try with_reducible rfl)
        try simp only [Act.put, List.setIfInBounds_toArray, List.set_cons_zero, List.set_cons_succ]
        refine wpAnyH_done (by kernel_rfl) ?_ _
        refine NoPanic.normal ?_
        clear hHeld HAL HMK
        have HN : Hid (epB c d i g (k + 1) = true ∧ MG (some ⟨kb, off, none⟩) n ic d mb LB (epF c d i g (k + 1)) w1 ∧ Bt LB w w1) := hid ⟨HNB.out, by rw [HNF.out]; exact (HMW.out w1 HB1.out).1, (HMW.out w1 HB1.out).2.1⟩
        go_wp2
        go_roundw
        case rel => exact ⟨k + 1, by have := HPP.out; omega, by have := HPP.out; go_num, HN⟩
        case measure => simp [intOf]; omega
    · obtain rfl : p = n := by omega
      have hkn : p - i = k := by have := HPP.out; omega
      have lpp : ¬ (p : Int) < (p : Int) := by omega
      have HFN : Hid (epB c d i g (p - i) = true ∧ Bt LB w wo ∧ MG ia p ic d mb LB (epF c d i g (p - i)) wo) := hid (by rw [hkn]; exact ⟨HH.out.1, HH.out.2.2, HH.out.2.1⟩)
      clear HH hkn
      go_wp2
      go_returns
      exact ⟨ret_bool HFN.out.1.symm, HFN.out.2.1, fun _ => HFN.out.2.2⟩
end Go.Proofs.Ytmbdeafpfdeigaa
